import Derived.Test.YtjllnojhhlkpoaaF11s
import Derived.WalkKit
import Derived.ProofKit
import Derived.LoopTactic
import Derived.Outline
import Derived.WalkSpells
import Derived.WalkLawsBesides
import Derived.Lib.Hide
import Derived.Deep.LoopGhost
import Derived.Deep.QuietTactic
import Derived.BigQuiet
import Derived.ShutString
import Derived.IntWalk
import Derived.Lib.MinMax
import Derived.Deep.RegionWith
import Derived.Deep.RegionHeld3
namespace Go.Proofs.Ytjllnojhhlkpoaa
open Go.ChangeShapes Go.WideShapes Go.ChangeAt Go.RowKit
open Dk
set_option linter.unusedVariables false
set_option linter.unusedSimpArgs false
theorem row12_0 (x0 x1 x2 x3 x4 x5 x6 x7 x8 x9 x10 x11 : Value) (Z : Array Value) : (#[x0, x1, x2, x3, x4, x5, x6, x7, x8, x9, x10, x11] ++ Z)[0]? = some x0 := by rw [Array.getElem?_append_left (by simp)]; rfl
theorem row12_1 (x0 x1 x2 x3 x4 x5 x6 x7 x8 x9 x10 x11 : Value) (Z : Array Value) : (#[x0, x1, x2, x3, x4, x5, x6, x7, x8, x9, x10, x11] ++ Z)[1]? = some x1 := by rw [Array.getElem?_append_left (by simp)]; rfl
theorem row12_2 (x0 x1 x2 x3 x4 x5 x6 x7 x8 x9 x10 x11 : Value) (Z : Array Value) : (#[x0, x1, x2, x3, x4, x5, x6, x7, x8, x9, x10, x11] ++ Z)[2]? = some x2 := by rw [Array.getElem?_append_left (by simp)]; rfl
theorem row12_3 (x0 x1 x2 x3 x4 x5 x6 x7 x8 x9 x10 x11 : Value) (Z : Array Value) : (#[x0, x1, x2, x3, x4, x5, x6, x7, x8, x9, x10, x11] ++ Z)[3]? = some x3 := by rw [Array.getElem?_append_left (by simp)]; rfl
theorem row12_4 (x0 x1 x2 x3 x4 x5 x6 x7 x8 x9 x10 x11 : Value) (Z : Array Value) : (#[x0, x1, x2, x3, x4, x5, x6, x7, x8, x9, x10, x11] ++ Z)[4]? = some x4 := by rw [Array.getElem?_append_left (by simp)]; rfl
theorem row12_5 (x0 x1 x2 x3 x4 x5 x6 x7 x8 x9 x10 x11 : Value) (Z : Array Value) : (#[x0, x1, x2, x3, x4, x5, x6, x7, x8, x9, x10, x11] ++ Z)[5]? = some x5 := by rw [Array.getElem?_append_left (by simp)]; rfl
theorem row12_6 (x0 x1 x2 x3 x4 x5 x6 x7 x8 x9 x10 x11 : Value) (Z : Array Value) : (#[x0, x1, x2, x3, x4, x5, x6, x7, x8, x9, x10, x11] ++ Z)[6]? = some x6 := by rw [Array.getElem?_append_left (by simp)]; rfl
theorem row12_7 (x0 x1 x2 x3 x4 x5 x6 x7 x8 x9 x10 x11 : Value) (Z : Array Value) : (#[x0, x1, x2, x3, x4, x5, x6, x7, x8, x9, x10, x11] ++ Z)[7]? = some x7 := by rw [Array.getElem?_append_left (by simp)]; rfl
theorem row12_8 (x0 x1 x2 x3 x4 x5 x6 x7 x8 x9 x10 x11 : Value) (Z : Array Value) : (#[x0, x1, x2, x3, x4, x5, x6, x7, x8, x9, x10, x11] ++ Z)[8]? = some x8 := by rw [Array.getElem?_append_left (by simp)]; rfl
theorem row12_9 (x0 x1 x2 x3 x4 x5 x6 x7 x8 x9 x10 x11 : Value) (Z : Array Value) : (#[x0, x1, x2, x3, x4, x5, x6, x7, x8, x9, x10, x11] ++ Z)[9]? = some x9 := by rw [Array.getElem?_append_left (by simp)]; rfl
theorem row12_10 (x0 x1 x2 x3 x4 x5 x6 x7 x8 x9 x10 x11 : Value) (Z : Array Value) : (#[x0, x1, x2, x3, x4, x5, x6, x7, x8, x9, x10, x11] ++ Z)[10]? = some x10 := by rw [Array.getElem?_append_left (by simp)]; rfl
theorem row12_11 (x0 x1 x2 x3 x4 x5 x6 x7 x8 x9 x10 x11 : Value) (Z : Array Value) : (#[x0, x1, x2, x3, x4, x5, x6, x7, x8, x9, x10, x11] ++ Z)[11]? = some x11 := by rw [Array.getElem?_append_left (by simp)]; rfl
theorem with_world (w : World) (a b : Array Value) (x y z : Value) (row : Array Value) (ta tb tc td te : TypeId) :
    ((((((w.alloc (.cells a ta)).alloc (.cells b tb)).alloc (.cells #[x, y, z] tc)).alloc (.cells #[] td)).alloc (.cells row te)).drew.cell? ⟨w.heap.size + 1 + 1, 0, none⟩ = some x ∧
     (((((w.alloc (.cells a ta)).alloc (.cells b tb)).alloc (.cells #[x, y, z] tc)).alloc (.cells #[] td)).alloc (.cells row te)).drew.cell? ⟨w.heap.size + 1 + 1, 1, none⟩ = some y ∧
     (((((w.alloc (.cells a ta)).alloc (.cells b tb)).alloc (.cells #[x, y, z] tc)).alloc (.cells #[] td)).alloc (.cells row te)).drew.cell? ⟨w.heap.size + 1 + 1, 2, none⟩ = some z) ∧
    (∀ (j : Nat) (v : Value), row[j]? = some v → (((((w.alloc (.cells a ta)).alloc (.cells b tb)).alloc (.cells #[x, y, z] tc)).alloc (.cells #[] td)).alloc (.cells row te)).drew.cell? ⟨w.heap.size + 1 + 1 + 1 + 1, j, none⟩ = some v) ∧
    Gr w (((((w.alloc (.cells a ta)).alloc (.cells b tb)).alloc (.cells #[x, y, z] tc)).alloc (.cells #[] td)).alloc (.cells row te)).drew := by
  have s2 : ((w.alloc (.cells a ta)).alloc (.cells b tb)).heap.size = w.heap.size + 1 + 1 := by simp
  have s4 : ((((w.alloc (.cells a ta)).alloc (.cells b tb)).alloc (.cells #[x, y, z] tc)).alloc (.cells #[] td)).heap.size = w.heap.size + 1 + 1 + 1 + 1 := by simp
  have g3 := (((Gr.refl (((w.alloc (.cells a ta)).alloc (.cells b tb)).alloc (.cells #[x, y, z] tc))).alloc (.cells #[] td)).alloc (.cells row te)).drew
  have g5 := (Gr.refl (((((w.alloc (.cells a ta)).alloc (.cells b tb)).alloc (.cells #[x, y, z] tc)).alloc (.cells #[] td)).alloc (.cells row te))).drew
  refine ⟨⟨g3.cell (new_cell s2.symm rfl), g3.cell (new_cell s2.symm rfl), g3.cell (new_cell s2.symm rfl)⟩, fun j v hj => g5.cell (new_cell s4.symm hj), ?_⟩
  exact (((((Gr.refl w).alloc _).alloc _).alloc _).alloc _).alloc _ |>.drew
set_option maxRecDepth 100000 in
set_option maxHeartbeats 1000000 in
theorem refWith_0 (g off cap : Nat) (fs : Nat → F) (room fail : Int) (f : F) (w : World) (h : RkAt w g off fs) :
    Calls Try.prog 56 #[.agg #[.slice (some ⟨g, off, none⟩) 4 cap, .int .i64 room, .int .i64 fail], .int .i64 0, .agg #[.string f.now, .string f.sure, .bool f.put]] w fun e w' => ∃ g' off' cap', e = .returned (.agg #[.slice (some ⟨g', off', none⟩) 4 cap', .int .i64 room, .int .i64 fail]) ∧ RkAt w' g' off' (upd fs 0 f) ∧ Gr w w' ∧ w.heap.size ≤ g' := by
  have q0 : w.cell? ⟨g, off, none⟩ = some (.string (fs 0).now) := (h 0 (by decide)).1
  have q1 : w.cell? ⟨g, off + 1, none⟩ = some (.string (fs 0).sure) := (h 0 (by decide)).2.1
  have q2 : w.cell? ⟨g, off + 2, none⟩ = some (.bool (fs 0).put) := (h 0 (by decide)).2.2
  have q3 : w.cell? ⟨g, off + 3, none⟩ = some (.string (fs 1).now) := (h 1 (by decide)).1
  have q4 : w.cell? ⟨g, off + 4, none⟩ = some (.string (fs 1).sure) := (h 1 (by decide)).2.1
  have q5 : w.cell? ⟨g, off + 5, none⟩ = some (.bool (fs 1).put) := (h 1 (by decide)).2.2
  have q6 : w.cell? ⟨g, off + 6, none⟩ = some (.string (fs 2).now) := (h 2 (by decide)).1
  have q7 : w.cell? ⟨g, off + 7, none⟩ = some (.string (fs 2).sure) := (h 2 (by decide)).2.1
  have q8 : w.cell? ⟨g, off + 8, none⟩ = some (.bool (fs 2).put) := (h 2 (by decide)).2.2
  have q9 : w.cell? ⟨g, off + 9, none⟩ = some (.string (fs 3).now) := (h 3 (by decide)).1
  have q10 : w.cell? ⟨g, off + 10, none⟩ = some (.string (fs 3).sure) := (h 3 (by decide)).2.1
  have q11 : w.cell? ⟨g, off + 11, none⟩ = some (.bool (fs 3).put) := (h 3 (by decide)).2.2
  clear h
  have G := ((((Gr.refl w).alloc (.cells #[.slice (some ⟨g, off, none⟩) 4 cap, .int .i64 room, .int .i64 fail] 28)).alloc (.cells #[.string f.now, .string f.sure, .bool f.put] 106)).alloc (.cells #[.slice none 0 0, .int .i64 0, .int .i64 0] 28)).alloc (.cells #[] 106)
  have p0 := G.cell q0
  have p1 := G.cell q1
  have p2 := G.cell q2
  have p3 := G.cell q3
  have p4 := G.cell q4
  have p5 := G.cell q5
  have p6 := G.cell q6
  have p7 := G.cell q7
  have p8 := G.cell q8
  have p9 := G.cell q9
  have p10 := G.cell q10
  have p11 := G.cell q11
  clear G
  have a0 := row12_0
  have a1 := row12_1
  have a2 := row12_2
  go_enter Try.func56, Try.ntmps56
  go_wp2
  clear q0 q1 q2 q3 q4 q5 q6 q7 q8 q9 q10 q11 p0 p1 p2 p3 p4 p5 p6 p7 p8 p9 p10 p11 a0 a1 a2
  generalize Builtin.zeroCells #[Value.string ⟨#[]⟩, Value.string ⟨#[]⟩, Value.bool false] _ = Z
  generalize (Question.appendCap 4 0 _).cut _ = cp
  obtain ⟨⟨k0, k1, k2⟩, hr, hg⟩ := with_world w #[.slice (some ⟨w.heap.size + 1 + 1 + 1 + 1, 0, none⟩) 4 cp, .int .i64 room, .int .i64 fail] #[.string f.now, .string f.sure, .bool f.put] (.slice (some ⟨w.heap.size + 1 + 1 + 1 + 1, 0, none⟩) 4 cp) (.int .i64 room) (.int .i64 fail) (#[.string f.now, .string f.sure, .bool f.put, .string (fs 1).now, .string (fs 1).sure, .bool (fs 1).put, .string (fs 2).now, .string (fs 2).sure, .bool (fs 2).put, .string (fs 3).now, .string (fs 3).sure, .bool (fs 3).put] ++ Z) 28 106 28 106 106
  refine bodyPost_ret (v := .agg #[.slice (some ⟨w.heap.size + 1 + 1 + 1 + 1, 0, none⟩) 4 cp, .int .i64 room, .int .i64 fail]) (by simp [results, Try.results56, go_sem, k0, k1, k2]; try rfl) rfl ?_
  refine ⟨_, _, _, rfl, fun k hk => ?_, hg, by omega⟩
  match k, hk with
  | 0, _ => exact ⟨hr 0 _ (row12_0 ..), hr 1 _ (row12_1 ..), hr 2 _ (row12_2 ..)⟩
  | 1, _ => exact ⟨hr 3 _ (row12_3 ..), hr 4 _ (row12_4 ..), hr 5 _ (row12_5 ..)⟩
  | 2, _ => exact ⟨hr 6 _ (row12_6 ..), hr 7 _ (row12_7 ..), hr 8 _ (row12_8 ..)⟩
  | 3, _ => exact ⟨hr 9 _ (row12_9 ..), hr 10 _ (row12_10 ..), hr 11 _ (row12_11 ..)⟩
set_option maxRecDepth 100000 in
set_option maxHeartbeats 1000000 in
theorem refWith_1 (g off cap : Nat) (fs : Nat → F) (room fail : Int) (f : F) (w : World) (h : RkAt w g off fs) :
    Calls Try.prog 56 #[.agg #[.slice (some ⟨g, off, none⟩) 4 cap, .int .i64 room, .int .i64 fail], .int .i64 1, .agg #[.string f.now, .string f.sure, .bool f.put]] w fun e w' => ∃ g' off' cap', e = .returned (.agg #[.slice (some ⟨g', off', none⟩) 4 cap', .int .i64 room, .int .i64 fail]) ∧ RkAt w' g' off' (upd fs 1 f) ∧ Gr w w' ∧ w.heap.size ≤ g' := by
  have q0 : w.cell? ⟨g, off, none⟩ = some (.string (fs 0).now) := (h 0 (by decide)).1
  have q1 : w.cell? ⟨g, off + 1, none⟩ = some (.string (fs 0).sure) := (h 0 (by decide)).2.1
  have q2 : w.cell? ⟨g, off + 2, none⟩ = some (.bool (fs 0).put) := (h 0 (by decide)).2.2
  have q3 : w.cell? ⟨g, off + 3, none⟩ = some (.string (fs 1).now) := (h 1 (by decide)).1
  have q4 : w.cell? ⟨g, off + 4, none⟩ = some (.string (fs 1).sure) := (h 1 (by decide)).2.1
  have q5 : w.cell? ⟨g, off + 5, none⟩ = some (.bool (fs 1).put) := (h 1 (by decide)).2.2
  have q6 : w.cell? ⟨g, off + 6, none⟩ = some (.string (fs 2).now) := (h 2 (by decide)).1
  have q7 : w.cell? ⟨g, off + 7, none⟩ = some (.string (fs 2).sure) := (h 2 (by decide)).2.1
  have q8 : w.cell? ⟨g, off + 8, none⟩ = some (.bool (fs 2).put) := (h 2 (by decide)).2.2
  have q9 : w.cell? ⟨g, off + 9, none⟩ = some (.string (fs 3).now) := (h 3 (by decide)).1
  have q10 : w.cell? ⟨g, off + 10, none⟩ = some (.string (fs 3).sure) := (h 3 (by decide)).2.1
  have q11 : w.cell? ⟨g, off + 11, none⟩ = some (.bool (fs 3).put) := (h 3 (by decide)).2.2
  clear h
  have G := ((((Gr.refl w).alloc (.cells #[.slice (some ⟨g, off, none⟩) 4 cap, .int .i64 room, .int .i64 fail] 28)).alloc (.cells #[.string f.now, .string f.sure, .bool f.put] 106)).alloc (.cells #[.slice none 0 0, .int .i64 0, .int .i64 0] 28)).alloc (.cells #[] 106)
  have p0 := G.cell q0
  have p1 := G.cell q1
  have p2 := G.cell q2
  have p3 := G.cell q3
  have p4 := G.cell q4
  have p5 := G.cell q5
  have p6 := G.cell q6
  have p7 := G.cell q7
  have p8 := G.cell q8
  have p9 := G.cell q9
  have p10 := G.cell q10
  have p11 := G.cell q11
  clear G
  have a3 := row12_3
  have a4 := row12_4
  have a5 := row12_5
  go_enter Try.func56, Try.ntmps56
  go_wp2
  clear q0 q1 q2 q3 q4 q5 q6 q7 q8 q9 q10 q11 p0 p1 p2 p3 p4 p5 p6 p7 p8 p9 p10 p11 a3 a4 a5
  generalize Builtin.zeroCells #[Value.string ⟨#[]⟩, Value.string ⟨#[]⟩, Value.bool false] _ = Z
  generalize (Question.appendCap 4 0 _).cut _ = cp
  obtain ⟨⟨k0, k1, k2⟩, hr, hg⟩ := with_world w #[.slice (some ⟨w.heap.size + 1 + 1 + 1 + 1, 0, none⟩) 4 cp, .int .i64 room, .int .i64 fail] #[.string f.now, .string f.sure, .bool f.put] (.slice (some ⟨w.heap.size + 1 + 1 + 1 + 1, 0, none⟩) 4 cp) (.int .i64 room) (.int .i64 fail) (#[.string (fs 0).now, .string (fs 0).sure, .bool (fs 0).put, .string f.now, .string f.sure, .bool f.put, .string (fs 2).now, .string (fs 2).sure, .bool (fs 2).put, .string (fs 3).now, .string (fs 3).sure, .bool (fs 3).put] ++ Z) 28 106 28 106 106
  refine bodyPost_ret (v := .agg #[.slice (some ⟨w.heap.size + 1 + 1 + 1 + 1, 0, none⟩) 4 cp, .int .i64 room, .int .i64 fail]) (by simp [results, Try.results56, go_sem, k0, k1, k2]; try rfl) rfl ?_
  refine ⟨_, _, _, rfl, fun k hk => ?_, hg, by omega⟩
  match k, hk with
  | 0, _ => exact ⟨hr 0 _ (row12_0 ..), hr 1 _ (row12_1 ..), hr 2 _ (row12_2 ..)⟩
  | 1, _ => exact ⟨hr 3 _ (row12_3 ..), hr 4 _ (row12_4 ..), hr 5 _ (row12_5 ..)⟩
  | 2, _ => exact ⟨hr 6 _ (row12_6 ..), hr 7 _ (row12_7 ..), hr 8 _ (row12_8 ..)⟩
  | 3, _ => exact ⟨hr 9 _ (row12_9 ..), hr 10 _ (row12_10 ..), hr 11 _ (row12_11 ..)⟩
set_option maxRecDepth 100000 in
set_option maxHeartbeats 1000000 in
theorem refWith_2 (g off cap : Nat) (fs : Nat → F) (room fail : Int) (f : F) (w : World) (h : RkAt w g off fs) :
    Calls Try.prog 56 #[.agg #[.slice (some ⟨g, off, none⟩) 4 cap, .int .i64 room, .int .i64 fail], .int .i64 2, .agg #[.string f.now, .string f.sure, .bool f.put]] w fun e w' => ∃ g' off' cap', e = .returned (.agg #[.slice (some ⟨g', off', none⟩) 4 cap', .int .i64 room, .int .i64 fail]) ∧ RkAt w' g' off' (upd fs 2 f) ∧ Gr w w' ∧ w.heap.size ≤ g' := by
  have q0 : w.cell? ⟨g, off, none⟩ = some (.string (fs 0).now) := (h 0 (by decide)).1
  have q1 : w.cell? ⟨g, off + 1, none⟩ = some (.string (fs 0).sure) := (h 0 (by decide)).2.1
  have q2 : w.cell? ⟨g, off + 2, none⟩ = some (.bool (fs 0).put) := (h 0 (by decide)).2.2
  have q3 : w.cell? ⟨g, off + 3, none⟩ = some (.string (fs 1).now) := (h 1 (by decide)).1
  have q4 : w.cell? ⟨g, off + 4, none⟩ = some (.string (fs 1).sure) := (h 1 (by decide)).2.1
  have q5 : w.cell? ⟨g, off + 5, none⟩ = some (.bool (fs 1).put) := (h 1 (by decide)).2.2
  have q6 : w.cell? ⟨g, off + 6, none⟩ = some (.string (fs 2).now) := (h 2 (by decide)).1
  have q7 : w.cell? ⟨g, off + 7, none⟩ = some (.string (fs 2).sure) := (h 2 (by decide)).2.1
  have q8 : w.cell? ⟨g, off + 8, none⟩ = some (.bool (fs 2).put) := (h 2 (by decide)).2.2
  have q9 : w.cell? ⟨g, off + 9, none⟩ = some (.string (fs 3).now) := (h 3 (by decide)).1
  have q10 : w.cell? ⟨g, off + 10, none⟩ = some (.string (fs 3).sure) := (h 3 (by decide)).2.1
  have q11 : w.cell? ⟨g, off + 11, none⟩ = some (.bool (fs 3).put) := (h 3 (by decide)).2.2
  clear h
  have G := ((((Gr.refl w).alloc (.cells #[.slice (some ⟨g, off, none⟩) 4 cap, .int .i64 room, .int .i64 fail] 28)).alloc (.cells #[.string f.now, .string f.sure, .bool f.put] 106)).alloc (.cells #[.slice none 0 0, .int .i64 0, .int .i64 0] 28)).alloc (.cells #[] 106)
  have p0 := G.cell q0
  have p1 := G.cell q1
  have p2 := G.cell q2
  have p3 := G.cell q3
  have p4 := G.cell q4
  have p5 := G.cell q5
  have p6 := G.cell q6
  have p7 := G.cell q7
  have p8 := G.cell q8
  have p9 := G.cell q9
  have p10 := G.cell q10
  have p11 := G.cell q11
  clear G
  have a6 := row12_6
  have a7 := row12_7
  have a8 := row12_8
  go_enter Try.func56, Try.ntmps56
  go_wp2
  clear q0 q1 q2 q3 q4 q5 q6 q7 q8 q9 q10 q11 p0 p1 p2 p3 p4 p5 p6 p7 p8 p9 p10 p11 a6 a7 a8
  generalize Builtin.zeroCells #[Value.string ⟨#[]⟩, Value.string ⟨#[]⟩, Value.bool false] _ = Z
  generalize (Question.appendCap 4 0 _).cut _ = cp
  obtain ⟨⟨k0, k1, k2⟩, hr, hg⟩ := with_world w #[.slice (some ⟨w.heap.size + 1 + 1 + 1 + 1, 0, none⟩) 4 cp, .int .i64 room, .int .i64 fail] #[.string f.now, .string f.sure, .bool f.put] (.slice (some ⟨w.heap.size + 1 + 1 + 1 + 1, 0, none⟩) 4 cp) (.int .i64 room) (.int .i64 fail) (#[.string (fs 0).now, .string (fs 0).sure, .bool (fs 0).put, .string (fs 1).now, .string (fs 1).sure, .bool (fs 1).put, .string f.now, .string f.sure, .bool f.put, .string (fs 3).now, .string (fs 3).sure, .bool (fs 3).put] ++ Z) 28 106 28 106 106
  refine bodyPost_ret (v := .agg #[.slice (some ⟨w.heap.size + 1 + 1 + 1 + 1, 0, none⟩) 4 cp, .int .i64 room, .int .i64 fail]) (by simp [results, Try.results56, go_sem, k0, k1, k2]; try rfl) rfl ?_
  refine ⟨_, _, _, rfl, fun k hk => ?_, hg, by omega⟩
  match k, hk with
  | 0, _ => exact ⟨hr 0 _ (row12_0 ..), hr 1 _ (row12_1 ..), hr 2 _ (row12_2 ..)⟩
  | 1, _ => exact ⟨hr 3 _ (row12_3 ..), hr 4 _ (row12_4 ..), hr 5 _ (row12_5 ..)⟩
  | 2, _ => exact ⟨hr 6 _ (row12_6 ..), hr 7 _ (row12_7 ..), hr 8 _ (row12_8 ..)⟩
  | 3, _ => exact ⟨hr 9 _ (row12_9 ..), hr 10 _ (row12_10 ..), hr 11 _ (row12_11 ..)⟩
set_option maxRecDepth 100000 in
set_option maxHeartbeats 1000000 in
theorem refWith_3 (g off cap : Nat) (fs : Nat → F) (room fail : Int) (f : F) (w : World) (h : RkAt w g off fs) :
    Calls Try.prog 56 #[.agg #[.slice (some ⟨g, off, none⟩) 4 cap, .int .i64 room, .int .i64 fail], .int .i64 3, .agg #[.string f.now, .string f.sure, .bool f.put]] w fun e w' => ∃ g' off' cap', e = .returned (.agg #[.slice (some ⟨g', off', none⟩) 4 cap', .int .i64 room, .int .i64 fail]) ∧ RkAt w' g' off' (upd fs 3 f) ∧ Gr w w' ∧ w.heap.size ≤ g' := by
  have q0 : w.cell? ⟨g, off, none⟩ = some (.string (fs 0).now) := (h 0 (by decide)).1
  have q1 : w.cell? ⟨g, off + 1, none⟩ = some (.string (fs 0).sure) := (h 0 (by decide)).2.1
  have q2 : w.cell? ⟨g, off + 2, none⟩ = some (.bool (fs 0).put) := (h 0 (by decide)).2.2
  have q3 : w.cell? ⟨g, off + 3, none⟩ = some (.string (fs 1).now) := (h 1 (by decide)).1
  have q4 : w.cell? ⟨g, off + 4, none⟩ = some (.string (fs 1).sure) := (h 1 (by decide)).2.1
  have q5 : w.cell? ⟨g, off + 5, none⟩ = some (.bool (fs 1).put) := (h 1 (by decide)).2.2
  have q6 : w.cell? ⟨g, off + 6, none⟩ = some (.string (fs 2).now) := (h 2 (by decide)).1
  have q7 : w.cell? ⟨g, off + 7, none⟩ = some (.string (fs 2).sure) := (h 2 (by decide)).2.1
  have q8 : w.cell? ⟨g, off + 8, none⟩ = some (.bool (fs 2).put) := (h 2 (by decide)).2.2
  have q9 : w.cell? ⟨g, off + 9, none⟩ = some (.string (fs 3).now) := (h 3 (by decide)).1
  have q10 : w.cell? ⟨g, off + 10, none⟩ = some (.string (fs 3).sure) := (h 3 (by decide)).2.1
  have q11 : w.cell? ⟨g, off + 11, none⟩ = some (.bool (fs 3).put) := (h 3 (by decide)).2.2
  clear h
  have G := ((((Gr.refl w).alloc (.cells #[.slice (some ⟨g, off, none⟩) 4 cap, .int .i64 room, .int .i64 fail] 28)).alloc (.cells #[.string f.now, .string f.sure, .bool f.put] 106)).alloc (.cells #[.slice none 0 0, .int .i64 0, .int .i64 0] 28)).alloc (.cells #[] 106)
  have p0 := G.cell q0
  have p1 := G.cell q1
  have p2 := G.cell q2
  have p3 := G.cell q3
  have p4 := G.cell q4
  have p5 := G.cell q5
  have p6 := G.cell q6
  have p7 := G.cell q7
  have p8 := G.cell q8
  have p9 := G.cell q9
  have p10 := G.cell q10
  have p11 := G.cell q11
  clear G
  have a9 := row12_9
  have a10 := row12_10
  have a11 := row12_11
  go_enter Try.func56, Try.ntmps56
  go_wp2
  clear q0 q1 q2 q3 q4 q5 q6 q7 q8 q9 q10 q11 p0 p1 p2 p3 p4 p5 p6 p7 p8 p9 p10 p11 a9 a10 a11
  generalize Builtin.zeroCells #[Value.string ⟨#[]⟩, Value.string ⟨#[]⟩, Value.bool false] _ = Z
  generalize (Question.appendCap 4 0 _).cut _ = cp
  obtain ⟨⟨k0, k1, k2⟩, hr, hg⟩ := with_world w #[.slice (some ⟨w.heap.size + 1 + 1 + 1 + 1, 0, none⟩) 4 cp, .int .i64 room, .int .i64 fail] #[.string f.now, .string f.sure, .bool f.put] (.slice (some ⟨w.heap.size + 1 + 1 + 1 + 1, 0, none⟩) 4 cp) (.int .i64 room) (.int .i64 fail) (#[.string (fs 0).now, .string (fs 0).sure, .bool (fs 0).put, .string (fs 1).now, .string (fs 1).sure, .bool (fs 1).put, .string (fs 2).now, .string (fs 2).sure, .bool (fs 2).put, .string f.now, .string f.sure, .bool f.put] ++ Z) 28 106 28 106 106
  refine bodyPost_ret (v := .agg #[.slice (some ⟨w.heap.size + 1 + 1 + 1 + 1, 0, none⟩) 4 cp, .int .i64 room, .int .i64 fail]) (by simp [results, Try.results56, go_sem, k0, k1, k2]; try rfl) rfl ?_
  refine ⟨_, _, _, rfl, fun k hk => ?_, hg, by omega⟩
  match k, hk with
  | 0, _ => exact ⟨hr 0 _ (row12_0 ..), hr 1 _ (row12_1 ..), hr 2 _ (row12_2 ..)⟩
  | 1, _ => exact ⟨hr 3 _ (row12_3 ..), hr 4 _ (row12_4 ..), hr 5 _ (row12_5 ..)⟩
  | 2, _ => exact ⟨hr 6 _ (row12_6 ..), hr 7 _ (row12_7 ..), hr 8 _ (row12_8 ..)⟩
  | 3, _ => exact ⟨hr 9 _ (row12_9 ..), hr 10 _ (row12_10 ..), hr 11 _ (row12_11 ..)⟩
theorem refWith_any (k : Nat) (hk : k < 4) (f : F) (d : D) (v : Value) (w : World) (h : RkIs w v d) :
    Calls Try.prog 56 #[v, .int .i64 (k : Nat), .agg #[.string f.now, .string f.sure, .bool f.put]] w fun e w' => ∃ v', e = .returned v' ∧ RkIs w' v' (putF d k f) ∧ Gr w w' ∧ w.heap.size ≤ rowOf v' := by
  obtain ⟨g, off, cap, rfl, ha⟩ := h
  match k, hk with
  | 0, _ => exact (refWith_0 g off cap d.fs _ _ f w ha).mono (fun e w' h => by obtain ⟨g', off', cap', rfl, hr, hg, hn⟩ := h; exact ⟨_, rfl, ⟨g', off', cap', rfl, hr⟩, hg, hn⟩)
  | 1, _ => exact (refWith_1 g off cap d.fs _ _ f w ha).mono (fun e w' h => by obtain ⟨g', off', cap', rfl, hr, hg, hn⟩ := h; exact ⟨_, rfl, ⟨g', off', cap', rfl, hr⟩, hg, hn⟩)
  | 2, _ => exact (refWith_2 g off cap d.fs _ _ f w ha).mono (fun e w' h => by obtain ⟨g', off', cap', rfl, hr, hg, hn⟩ := h; exact ⟨_, rfl, ⟨g', off', cap', rfl, hr⟩, hg, hn⟩)
  | 3, _ => exact (refWith_3 g off cap d.fs _ _ f w ha).mono (fun e w' h => by obtain ⟨g', off', cap', rfl, hr, hg, hn⟩ := h; exact ⟨_, rfl, ⟨g', off', cap', rfl, hr⟩, hg, hn⟩)
end Go.Proofs.Ytjllnojhhlkpoaa
