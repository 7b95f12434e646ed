import Derived.Test.YtfcfbecfamemlaaL12s
import Derived.WalkKit
import Derived.ProofKit
import Derived.LoopTactic
import Derived.Outline
import Derived.WalkSpells
import Derived.WalkLawsBesides
import Derived.Lib.Hide
import Derived.Deep.LoopGhost
import Derived.Deep.QuietTactic
import Derived.BigQuiet
import Derived.ShutString
import Derived.IntWalk
import Derived.Lib.MinMax
import Derived.Deep.RegionWith
import Derived.Deep.RegionHeld3
namespace Go.Proofs.Ytfcfbecfamemlaa
open Go.ChangeShapes Go.WideShapes Go.ChangeAt Go.RowKit
open Dk Enc
set_option linter.unusedVariables false
set_option linter.unusedSimpArgs false
set_option maxRecDepth 100000 in
set_option maxHeartbeats 1000000 in
theorem refOpen_bad1 (s t t0 t1 : ByteArray) (v0 v1 : Nat) (w : World)
    (RA : Hid (∀ w, Calls Try.prog 57 #[.string s] w fun e w' => e = .returned (.agg #[.int .u64 (v0 : Nat), .string t0, .bool true]) ∧ Gr w w'))
    (RB : Hid (∀ w, Calls Try.prog 57 #[.string t] w fun e w' => e = .returned (.agg #[.int .u64 (v1 : Nat), .string t1, .bool true]) ∧ Gr w w'))
     :
    Calls Try.prog 27 #[.string s, .string t] w fun e w' => e = .returned (.tuple #[.int .u64 0, .string ⟨#[]⟩, .int .i64 7]) ∧ Gr w w' := by
  go_enter Try.func27, Try.ntmps27
  go_wp2_with fail
  refine (RA.out _).mono ?_
  rintro e w2 ⟨rfl, hg2⟩
  go_wp2_with fail
  refine (RB.out _).mono ?_
  rintro e w3 ⟨rfl, hg3⟩
  have p0 : w3.cell? ⟨w2.heap.size, 0, none⟩ = some (.int .u64 (v0 : Nat)) := hg3.own.1 0 _ rfl
  have p1 : w3.cell? ⟨w2.heap.size, 1, none⟩ = some (.string t0) := hg3.own.1 1 _ rfl
  have p2 : w3.cell? ⟨w2.heap.size, 2, none⟩ = some (.bool true) := hg3.own.1 2 _ rfl
  have HG := Lib.hid ((hg2.trans ((Gr.refl w2).alloc _)).trans hg3)
  have hlt := hg3.own.2.2
  clear hg2 hg3
  have HG4 := Lib.hid (HG.out.alloc (.cells #[.int .u64 (v1 : Nat), .string t1, .bool true] 113))
  have m := ((Gr.refl w3).alloc (.cells #[.int .u64 (v1 : Nat), .string t1, .bool true] 113))
  have k0 := m.cell p0
  have k1 := m.cell p1
  have j0 : (w3.alloc (.cells #[.int .u64 (v1 : Nat), .string t1, .bool true] 113)).cell? ⟨w3.heap.size, 0, none⟩ = some (.int .u64 (v1 : Nat)) := new_cell rfl rfl
  have j1 : (w3.alloc (.cells #[.int .u64 (v1 : Nat), .string t1, .bool true] 113)).cell? ⟨w3.heap.size, 1, none⟩ = some (.string t1) := new_cell rfl rfl
  clear m
  generalize w2.heap.size = ab at *
  go_wp2
  all_goals refine bodyPost_ret (v := .tuple #[.int .u64 0, .string ⟨#[]⟩, .int .i64 7]) (by simp [results, Try.results27, go_sem]; try rfl) rfl ?_
  all_goals exact ⟨rfl, by first | exact HG.out | exact HG4.out | exact HG4.out.drew | exact HG4.out.drew.drew⟩
set_option maxRecDepth 100000 in
set_option maxHeartbeats 1000000 in
theorem refOpen_bad2 (s t t0 t1 : ByteArray) (v0 v1 : Nat) (w : World)
    (RA : Hid (∀ w, Calls Try.prog 57 #[.string s] w fun e w' => e = .returned (.agg #[.int .u64 (v0 : Nat), .string t0, .bool false]) ∧ Gr w w'))
    (RB : Hid (∀ w, Calls Try.prog 57 #[.string t] w fun e w' => e = .returned (.agg #[.int .u64 (v1 : Nat), .string t1, .bool true]) ∧ Gr w w'))
    (f : s.toList.isEmpty = true) :
    Calls Try.prog 27 #[.string s, .string t] w fun e w' => e = .returned (.tuple #[.int .u64 0, .string ⟨#[]⟩, .int .i64 7]) ∧ Gr w w' := by
  go_enter Try.func27, Try.ntmps27
  go_wp2_with fail
  refine (RA.out _).mono ?_
  rintro e w2 ⟨rfl, hg2⟩
  go_wp2_with fail
  refine (RB.out _).mono ?_
  rintro e w3 ⟨rfl, hg3⟩
  have p0 : w3.cell? ⟨w2.heap.size, 0, none⟩ = some (.int .u64 (v0 : Nat)) := hg3.own.1 0 _ rfl
  have p1 : w3.cell? ⟨w2.heap.size, 1, none⟩ = some (.string t0) := hg3.own.1 1 _ rfl
  have p2 : w3.cell? ⟨w2.heap.size, 2, none⟩ = some (.bool false) := hg3.own.1 2 _ rfl
  have HG := Lib.hid ((hg2.trans ((Gr.refl w2).alloc _)).trans hg3)
  have hlt := hg3.own.2.2
  clear hg2 hg3
  have HG4 := Lib.hid (HG.out.alloc (.cells #[.int .u64 (v1 : Nat), .string t1, .bool true] 113))
  have m := ((Gr.refl w3).alloc (.cells #[.int .u64 (v1 : Nat), .string t1, .bool true] 113))
  have k0 := m.cell p0
  have k1 := m.cell p1
  have j0 : (w3.alloc (.cells #[.int .u64 (v1 : Nat), .string t1, .bool true] 113)).cell? ⟨w3.heap.size, 0, none⟩ = some (.int .u64 (v1 : Nat)) := new_cell rfl rfl
  have j1 : (w3.alloc (.cells #[.int .u64 (v1 : Nat), .string t1, .bool true] 113)).cell? ⟨w3.heap.size, 1, none⟩ = some (.string t1) := new_cell rfl rfl
  clear m
  generalize w2.heap.size = ab at *
  go_wp2
  all_goals refine bodyPost_ret (v := .tuple #[.int .u64 0, .string ⟨#[]⟩, .int .i64 7]) (by simp [results, Try.results27, go_sem]; try rfl) rfl ?_
  all_goals exact ⟨rfl, by first | exact HG.out | exact HG4.out | exact HG4.out.drew | exact HG4.out.drew.drew⟩
set_option maxRecDepth 100000 in
set_option maxHeartbeats 1000000 in
theorem refOpen_gz (s t t0 t1 : ByteArray) (v0 v1 : Nat) (b0 : Bool) (w : World)
    (RA : Hid (∀ w, Calls Try.prog 57 #[.string s] w fun e w' => e = .returned (.agg #[.int .u64 (v0 : Nat), .string t0, .bool b0]) ∧ Gr w w'))
    (RB : Hid (∀ w, Calls Try.prog 57 #[.string t] w fun e w' => e = .returned (.agg #[.int .u64 (v1 : Nat), .string t1, .bool false]) ∧ Gr w w'))
    (f0 : ((v0 : Int) == 0) = true) (f1 : ((v1 : Int) == 0) = true) :
    Calls Try.prog 27 #[.string s, .string t] w fun e w' => e = .returned (.tuple #[.int .u64 0, .string ⟨#[]⟩, .int .i64 0]) ∧ Gr w w' := by
  go_enter Try.func27, Try.ntmps27
  go_wp2_with fail
  refine (RA.out _).mono ?_
  rintro e w2 ⟨rfl, hg2⟩
  go_wp2_with fail
  refine (RB.out _).mono ?_
  rintro e w3 ⟨rfl, hg3⟩
  have p0 : w3.cell? ⟨w2.heap.size, 0, none⟩ = some (.int .u64 (v0 : Nat)) := hg3.own.1 0 _ rfl
  have p1 : w3.cell? ⟨w2.heap.size, 1, none⟩ = some (.string t0) := hg3.own.1 1 _ rfl
  have p2 : w3.cell? ⟨w2.heap.size, 2, none⟩ = some (.bool b0) := hg3.own.1 2 _ rfl
  have HG := Lib.hid ((hg2.trans ((Gr.refl w2).alloc _)).trans hg3)
  have hlt := hg3.own.2.2
  clear hg2 hg3
  have HG4 := Lib.hid (HG.out.alloc (.cells #[.int .u64 (v1 : Nat), .string t1, .bool false] 113))
  have m := ((Gr.refl w3).alloc (.cells #[.int .u64 (v1 : Nat), .string t1, .bool false] 113))
  have k0 := m.cell p0
  have k1 := m.cell p1
  have j0 : (w3.alloc (.cells #[.int .u64 (v1 : Nat), .string t1, .bool false] 113)).cell? ⟨w3.heap.size, 0, none⟩ = some (.int .u64 (v1 : Nat)) := new_cell rfl rfl
  have j1 : (w3.alloc (.cells #[.int .u64 (v1 : Nat), .string t1, .bool false] 113)).cell? ⟨w3.heap.size, 1, none⟩ = some (.string t1) := new_cell rfl rfl
  clear m
  generalize w2.heap.size = ab at *
  go_wp2
  all_goals refine bodyPost_ret (v := .tuple #[.int .u64 0, .string ⟨#[]⟩, .int .i64 0]) (by simp [results, Try.results27, go_sem]; try rfl) rfl ?_
  all_goals exact ⟨rfl, by first | exact HG.out | exact HG4.out | exact HG4.out.drew | exact HG4.out.drew.drew⟩
set_option maxRecDepth 100000 in
set_option maxHeartbeats 1000000 in
theorem refOpen_gy (s t t0 t1 : ByteArray) (v0 v1 : Nat) (b0 : Bool) (w : World)
    (RA : Hid (∀ w, Calls Try.prog 57 #[.string s] w fun e w' => e = .returned (.agg #[.int .u64 (v0 : Nat), .string t0, .bool b0]) ∧ Gr w w'))
    (RB : Hid (∀ w, Calls Try.prog 57 #[.string t] w fun e w' => e = .returned (.agg #[.int .u64 (v1 : Nat), .string t1, .bool false]) ∧ Gr w w'))
    (f0 : ((v0 : Int) == 0) = true) (f1 : ((v1 : Int) == 0) = false) (f2 : (v0 : Int) < v1) :
    Calls Try.prog 27 #[.string s, .string t] w fun e w' => e = .returned (.tuple #[.int .u64 (v1 : Nat), .string t1, .int .i64 0]) ∧ Gr w w' := by
  go_enter Try.func27, Try.ntmps27
  go_wp2_with fail
  refine (RA.out _).mono ?_
  rintro e w2 ⟨rfl, hg2⟩
  go_wp2_with fail
  refine (RB.out _).mono ?_
  rintro e w3 ⟨rfl, hg3⟩
  have p0 : w3.cell? ⟨w2.heap.size, 0, none⟩ = some (.int .u64 (v0 : Nat)) := hg3.own.1 0 _ rfl
  have p1 : w3.cell? ⟨w2.heap.size, 1, none⟩ = some (.string t0) := hg3.own.1 1 _ rfl
  have p2 : w3.cell? ⟨w2.heap.size, 2, none⟩ = some (.bool b0) := hg3.own.1 2 _ rfl
  have HG := Lib.hid ((hg2.trans ((Gr.refl w2).alloc _)).trans hg3)
  have hlt := hg3.own.2.2
  clear hg2 hg3
  have HG4 := Lib.hid (HG.out.alloc (.cells #[.int .u64 (v1 : Nat), .string t1, .bool false] 113))
  have m := ((Gr.refl w3).alloc (.cells #[.int .u64 (v1 : Nat), .string t1, .bool false] 113))
  have k0 := m.cell p0
  have k1 := m.cell p1
  have j0 : (w3.alloc (.cells #[.int .u64 (v1 : Nat), .string t1, .bool false] 113)).cell? ⟨w3.heap.size, 0, none⟩ = some (.int .u64 (v1 : Nat)) := new_cell rfl rfl
  have j1 : (w3.alloc (.cells #[.int .u64 (v1 : Nat), .string t1, .bool false] 113)).cell? ⟨w3.heap.size, 1, none⟩ = some (.string t1) := new_cell rfl rfl
  clear m
  generalize w2.heap.size = ab at *
  go_wp2
  generalize w3.alloc (.cells #[.int .u64 (v1 : Nat), .string t1, .bool false] 113) = w4 at *
  go_region_with (fail)
  all_goals go_wp2
  all_goals refine bodyPost_ret (v := .tuple #[.int .u64 (v1 : Nat), .string t1, .int .i64 0]) (by simp [results, Try.results27, go_sem]; try rfl) rfl ?_
  all_goals exact ⟨rfl, by first | exact HG.out | exact HG4.out | exact HG4.out.drew | exact HG4.out.drew.drew⟩
set_option maxRecDepth 100000 in
set_option maxHeartbeats 1000000 in
theorem refOpen_gb (s t t0 t1 : ByteArray) (v0 v1 : Nat) (b0 : Bool) (w : World)
    (RA : Hid (∀ w, Calls Try.prog 57 #[.string s] w fun e w' => e = .returned (.agg #[.int .u64 (v0 : Nat), .string t0, .bool b0]) ∧ Gr w w'))
    (RB : Hid (∀ w, Calls Try.prog 57 #[.string t] w fun e w' => e = .returned (.agg #[.int .u64 (v1 : Nat), .string t1, .bool false]) ∧ Gr w w'))
    (f0 : ((v0 : Int) == 0) = false) (f2 : (v0 : Int) < v1) :
    Calls Try.prog 27 #[.string s, .string t] w fun e w' => e = .returned (.tuple #[.int .u64 (v1 : Nat), .string t1, .int .i64 0]) ∧ Gr w w' := by
  go_enter Try.func27, Try.ntmps27
  go_wp2_with fail
  refine (RA.out _).mono ?_
  rintro e w2 ⟨rfl, hg2⟩
  go_wp2_with fail
  refine (RB.out _).mono ?_
  rintro e w3 ⟨rfl, hg3⟩
  have p0 : w3.cell? ⟨w2.heap.size, 0, none⟩ = some (.int .u64 (v0 : Nat)) := hg3.own.1 0 _ rfl
  have p1 : w3.cell? ⟨w2.heap.size, 1, none⟩ = some (.string t0) := hg3.own.1 1 _ rfl
  have p2 : w3.cell? ⟨w2.heap.size, 2, none⟩ = some (.bool b0) := hg3.own.1 2 _ rfl
  have HG := Lib.hid ((hg2.trans ((Gr.refl w2).alloc _)).trans hg3)
  have hlt := hg3.own.2.2
  clear hg2 hg3
  have HG4 := Lib.hid (HG.out.alloc (.cells #[.int .u64 (v1 : Nat), .string t1, .bool false] 113))
  have m := ((Gr.refl w3).alloc (.cells #[.int .u64 (v1 : Nat), .string t1, .bool false] 113))
  have k0 := m.cell p0
  have k1 := m.cell p1
  have j0 : (w3.alloc (.cells #[.int .u64 (v1 : Nat), .string t1, .bool false] 113)).cell? ⟨w3.heap.size, 0, none⟩ = some (.int .u64 (v1 : Nat)) := new_cell rfl rfl
  have j1 : (w3.alloc (.cells #[.int .u64 (v1 : Nat), .string t1, .bool false] 113)).cell? ⟨w3.heap.size, 1, none⟩ = some (.string t1) := new_cell rfl rfl
  clear m
  generalize w2.heap.size = ab at *
  go_wp2
  generalize w3.alloc (.cells #[.int .u64 (v1 : Nat), .string t1, .bool false] 113) = w4 at *
  go_region_with (fail)
  all_goals go_wp2
  all_goals refine bodyPost_ret (v := .tuple #[.int .u64 (v1 : Nat), .string t1, .int .i64 0]) (by simp [results, Try.results27, go_sem]; try rfl) rfl ?_
  all_goals exact ⟨rfl, by first | exact HG.out | exact HG4.out | exact HG4.out.drew | exact HG4.out.drew.drew⟩
set_option maxRecDepth 100000 in
set_option maxHeartbeats 1000000 in
theorem refOpen_ga (s t t0 t1 : ByteArray) (v0 v1 : Nat) (b0 : Bool) (w : World)
    (RA : Hid (∀ w, Calls Try.prog 57 #[.string s] w fun e w' => e = .returned (.agg #[.int .u64 (v0 : Nat), .string t0, .bool b0]) ∧ Gr w w'))
    (RB : Hid (∀ w, Calls Try.prog 57 #[.string t] w fun e w' => e = .returned (.agg #[.int .u64 (v1 : Nat), .string t1, .bool false]) ∧ Gr w w'))
    (f0 : ((v0 : Int) == 0) = false) (f2 : ¬ (v0 : Int) < v1) :
    Calls Try.prog 27 #[.string s, .string t] w fun e w' => e = .returned (.tuple #[.int .u64 (v0 : Nat), .string t0, .int .i64 0]) ∧ Gr w w' := by
  go_enter Try.func27, Try.ntmps27
  go_wp2_with fail
  refine (RA.out _).mono ?_
  rintro e w2 ⟨rfl, hg2⟩
  go_wp2_with fail
  refine (RB.out _).mono ?_
  rintro e w3 ⟨rfl, hg3⟩
  have p0 : w3.cell? ⟨w2.heap.size, 0, none⟩ = some (.int .u64 (v0 : Nat)) := hg3.own.1 0 _ rfl
  have p1 : w3.cell? ⟨w2.heap.size, 1, none⟩ = some (.string t0) := hg3.own.1 1 _ rfl
  have p2 : w3.cell? ⟨w2.heap.size, 2, none⟩ = some (.bool b0) := hg3.own.1 2 _ rfl
  have HG := Lib.hid ((hg2.trans ((Gr.refl w2).alloc _)).trans hg3)
  have hlt := hg3.own.2.2
  clear hg2 hg3
  have HG4 := Lib.hid (HG.out.alloc (.cells #[.int .u64 (v1 : Nat), .string t1, .bool false] 113))
  have m := ((Gr.refl w3).alloc (.cells #[.int .u64 (v1 : Nat), .string t1, .bool false] 113))
  have k0 := m.cell p0
  have k1 := m.cell p1
  have j0 : (w3.alloc (.cells #[.int .u64 (v1 : Nat), .string t1, .bool false] 113)).cell? ⟨w3.heap.size, 0, none⟩ = some (.int .u64 (v1 : Nat)) := new_cell rfl rfl
  have j1 : (w3.alloc (.cells #[.int .u64 (v1 : Nat), .string t1, .bool false] 113)).cell? ⟨w3.heap.size, 1, none⟩ = some (.string t1) := new_cell rfl rfl
  clear m
  generalize w2.heap.size = ab at *
  go_wp2
  generalize w3.alloc (.cells #[.int .u64 (v1 : Nat), .string t1, .bool false] 113) = w4 at *
  go_region_with (fail)
  all_goals go_wp2
  all_goals refine bodyPost_ret (v := .tuple #[.int .u64 (v0 : Nat), .string t0, .int .i64 0]) (by simp [results, Try.results27, go_sem]; try rfl) rfl ?_
  all_goals exact ⟨rfl, by first | exact HG.out | exact HG4.out | exact HG4.out.drew | exact HG4.out.drew.drew⟩
set_option maxRecDepth 100000 in
set_option maxHeartbeats 1000000 in
theorem refOpen_hz (s t t0 t1 : ByteArray) (v0 v1 : Nat) (w : World)
    (RA : Hid (∀ w, Calls Try.prog 57 #[.string s] w fun e w' => e = .returned (.agg #[.int .u64 (v0 : Nat), .string t0, .bool false]) ∧ Gr w w'))
    (RB : Hid (∀ w, Calls Try.prog 57 #[.string t] w fun e w' => e = .returned (.agg #[.int .u64 (v1 : Nat), .string t1, .bool true]) ∧ Gr w w'))
    (f : s.toList.isEmpty = false) (f0 : ((v0 : Int) == 0) = true) (f1 : ((v1 : Int) == 0) = true) :
    Calls Try.prog 27 #[.string s, .string t] w fun e w' => e = .returned (.tuple #[.int .u64 0, .string ⟨#[]⟩, .int .i64 0]) ∧ Gr w w' := by
  go_enter Try.func27, Try.ntmps27
  go_wp2_with fail
  refine (RA.out _).mono ?_
  rintro e w2 ⟨rfl, hg2⟩
  go_wp2_with fail
  refine (RB.out _).mono ?_
  rintro e w3 ⟨rfl, hg3⟩
  have p0 : w3.cell? ⟨w2.heap.size, 0, none⟩ = some (.int .u64 (v0 : Nat)) := hg3.own.1 0 _ rfl
  have p1 : w3.cell? ⟨w2.heap.size, 1, none⟩ = some (.string t0) := hg3.own.1 1 _ rfl
  have p2 : w3.cell? ⟨w2.heap.size, 2, none⟩ = some (.bool false) := hg3.own.1 2 _ rfl
  have HG := Lib.hid ((hg2.trans ((Gr.refl w2).alloc _)).trans hg3)
  have hlt := hg3.own.2.2
  clear hg2 hg3
  have HG4 := Lib.hid (HG.out.alloc (.cells #[.int .u64 (v1 : Nat), .string t1, .bool true] 113))
  have m := ((Gr.refl w3).alloc (.cells #[.int .u64 (v1 : Nat), .string t1, .bool true] 113))
  have k0 := m.cell p0
  have k1 := m.cell p1
  have j0 : (w3.alloc (.cells #[.int .u64 (v1 : Nat), .string t1, .bool true] 113)).cell? ⟨w3.heap.size, 0, none⟩ = some (.int .u64 (v1 : Nat)) := new_cell rfl rfl
  have j1 : (w3.alloc (.cells #[.int .u64 (v1 : Nat), .string t1, .bool true] 113)).cell? ⟨w3.heap.size, 1, none⟩ = some (.string t1) := new_cell rfl rfl
  clear m
  generalize w2.heap.size = ab at *
  go_wp2
  all_goals refine bodyPost_ret (v := .tuple #[.int .u64 0, .string ⟨#[]⟩, .int .i64 0]) (by simp [results, Try.results27, go_sem]; try rfl) rfl ?_
  all_goals exact ⟨rfl, by first | exact HG.out | exact HG4.out | exact HG4.out.drew | exact HG4.out.drew.drew⟩
set_option maxRecDepth 100000 in
set_option maxHeartbeats 1000000 in
theorem refOpen_hy (s t t0 t1 : ByteArray) (v0 v1 : Nat) (w : World)
    (RA : Hid (∀ w, Calls Try.prog 57 #[.string s] w fun e w' => e = .returned (.agg #[.int .u64 (v0 : Nat), .string t0, .bool false]) ∧ Gr w w'))
    (RB : Hid (∀ w, Calls Try.prog 57 #[.string t] w fun e w' => e = .returned (.agg #[.int .u64 (v1 : Nat), .string t1, .bool true]) ∧ Gr w w'))
    (f : s.toList.isEmpty = false) (f0 : ((v0 : Int) == 0) = true) (f1 : ((v1 : Int) == 0) = false) (f2 : (v0 : Int) < v1) :
    Calls Try.prog 27 #[.string s, .string t] w fun e w' => e = .returned (.tuple #[.int .u64 (v1 : Nat), .string t1, .int .i64 0]) ∧ Gr w w' := by
  go_enter Try.func27, Try.ntmps27
  go_wp2_with fail
  refine (RA.out _).mono ?_
  rintro e w2 ⟨rfl, hg2⟩
  go_wp2_with fail
  refine (RB.out _).mono ?_
  rintro e w3 ⟨rfl, hg3⟩
  have p0 : w3.cell? ⟨w2.heap.size, 0, none⟩ = some (.int .u64 (v0 : Nat)) := hg3.own.1 0 _ rfl
  have p1 : w3.cell? ⟨w2.heap.size, 1, none⟩ = some (.string t0) := hg3.own.1 1 _ rfl
  have p2 : w3.cell? ⟨w2.heap.size, 2, none⟩ = some (.bool false) := hg3.own.1 2 _ rfl
  have HG := Lib.hid ((hg2.trans ((Gr.refl w2).alloc _)).trans hg3)
  have hlt := hg3.own.2.2
  clear hg2 hg3
  have HG4 := Lib.hid (HG.out.alloc (.cells #[.int .u64 (v1 : Nat), .string t1, .bool true] 113))
  have m := ((Gr.refl w3).alloc (.cells #[.int .u64 (v1 : Nat), .string t1, .bool true] 113))
  have k0 := m.cell p0
  have k1 := m.cell p1
  have j0 : (w3.alloc (.cells #[.int .u64 (v1 : Nat), .string t1, .bool true] 113)).cell? ⟨w3.heap.size, 0, none⟩ = some (.int .u64 (v1 : Nat)) := new_cell rfl rfl
  have j1 : (w3.alloc (.cells #[.int .u64 (v1 : Nat), .string t1, .bool true] 113)).cell? ⟨w3.heap.size, 1, none⟩ = some (.string t1) := new_cell rfl rfl
  clear m
  generalize w2.heap.size = ab at *
  go_wp2
  generalize w3.alloc (.cells #[.int .u64 (v1 : Nat), .string t1, .bool true] 113) = w4 at *
  go_region_with (fail)
  all_goals go_wp2
  all_goals refine bodyPost_ret (v := .tuple #[.int .u64 (v1 : Nat), .string t1, .int .i64 0]) (by simp [results, Try.results27, go_sem]; try rfl) rfl ?_
  all_goals exact ⟨rfl, by first | exact HG.out | exact HG4.out | exact HG4.out.drew | exact HG4.out.drew.drew⟩
set_option maxRecDepth 100000 in
set_option maxHeartbeats 1000000 in
theorem refOpen_hb (s t t0 t1 : ByteArray) (v0 v1 : Nat) (w : World)
    (RA : Hid (∀ w, Calls Try.prog 57 #[.string s] w fun e w' => e = .returned (.agg #[.int .u64 (v0 : Nat), .string t0, .bool false]) ∧ Gr w w'))
    (RB : Hid (∀ w, Calls Try.prog 57 #[.string t] w fun e w' => e = .returned (.agg #[.int .u64 (v1 : Nat), .string t1, .bool true]) ∧ Gr w w'))
    (f : s.toList.isEmpty = false) (f0 : ((v0 : Int) == 0) = false) (f2 : (v0 : Int) < v1) :
    Calls Try.prog 27 #[.string s, .string t] w fun e w' => e = .returned (.tuple #[.int .u64 (v1 : Nat), .string t1, .int .i64 0]) ∧ Gr w w' := by
  go_enter Try.func27, Try.ntmps27
  go_wp2_with fail
  refine (RA.out _).mono ?_
  rintro e w2 ⟨rfl, hg2⟩
  go_wp2_with fail
  refine (RB.out _).mono ?_
  rintro e w3 ⟨rfl, hg3⟩
  have p0 : w3.cell? ⟨w2.heap.size, 0, none⟩ = some (.int .u64 (v0 : Nat)) := hg3.own.1 0 _ rfl
  have p1 : w3.cell? ⟨w2.heap.size, 1, none⟩ = some (.string t0) := hg3.own.1 1 _ rfl
  have p2 : w3.cell? ⟨w2.heap.size, 2, none⟩ = some (.bool false) := hg3.own.1 2 _ rfl
  have HG := Lib.hid ((hg2.trans ((Gr.refl w2).alloc _)).trans hg3)
  have hlt := hg3.own.2.2
  clear hg2 hg3
  have HG4 := Lib.hid (HG.out.alloc (.cells #[.int .u64 (v1 : Nat), .string t1, .bool true] 113))
  have m := ((Gr.refl w3).alloc (.cells #[.int .u64 (v1 : Nat), .string t1, .bool true] 113))
  have k0 := m.cell p0
  have k1 := m.cell p1
  have j0 : (w3.alloc (.cells #[.int .u64 (v1 : Nat), .string t1, .bool true] 113)).cell? ⟨w3.heap.size, 0, none⟩ = some (.int .u64 (v1 : Nat)) := new_cell rfl rfl
  have j1 : (w3.alloc (.cells #[.int .u64 (v1 : Nat), .string t1, .bool true] 113)).cell? ⟨w3.heap.size, 1, none⟩ = some (.string t1) := new_cell rfl rfl
  clear m
  generalize w2.heap.size = ab at *
  go_wp2
  generalize w3.alloc (.cells #[.int .u64 (v1 : Nat), .string t1, .bool true] 113) = w4 at *
  go_region_with (fail)
  all_goals go_wp2
  all_goals refine bodyPost_ret (v := .tuple #[.int .u64 (v1 : Nat), .string t1, .int .i64 0]) (by simp [results, Try.results27, go_sem]; try rfl) rfl ?_
  all_goals exact ⟨rfl, by first | exact HG.out | exact HG4.out | exact HG4.out.drew | exact HG4.out.drew.drew⟩
set_option maxRecDepth 100000 in
set_option maxHeartbeats 1000000 in
theorem refOpen_ha (s t t0 t1 : ByteArray) (v0 v1 : Nat) (w : World)
    (RA : Hid (∀ w, Calls Try.prog 57 #[.string s] w fun e w' => e = .returned (.agg #[.int .u64 (v0 : Nat), .string t0, .bool false]) ∧ Gr w w'))
    (RB : Hid (∀ w, Calls Try.prog 57 #[.string t] w fun e w' => e = .returned (.agg #[.int .u64 (v1 : Nat), .string t1, .bool true]) ∧ Gr w w'))
    (f : s.toList.isEmpty = false) (f0 : ((v0 : Int) == 0) = false) (f2 : ¬ (v0 : Int) < v1) :
    Calls Try.prog 27 #[.string s, .string t] w fun e w' => e = .returned (.tuple #[.int .u64 (v0 : Nat), .string t0, .int .i64 0]) ∧ Gr w w' := by
  go_enter Try.func27, Try.ntmps27
  go_wp2_with fail
  refine (RA.out _).mono ?_
  rintro e w2 ⟨rfl, hg2⟩
  go_wp2_with fail
  refine (RB.out _).mono ?_
  rintro e w3 ⟨rfl, hg3⟩
  have p0 : w3.cell? ⟨w2.heap.size, 0, none⟩ = some (.int .u64 (v0 : Nat)) := hg3.own.1 0 _ rfl
  have p1 : w3.cell? ⟨w2.heap.size, 1, none⟩ = some (.string t0) := hg3.own.1 1 _ rfl
  have p2 : w3.cell? ⟨w2.heap.size, 2, none⟩ = some (.bool false) := hg3.own.1 2 _ rfl
  have HG := Lib.hid ((hg2.trans ((Gr.refl w2).alloc _)).trans hg3)
  have hlt := hg3.own.2.2
  clear hg2 hg3
  have HG4 := Lib.hid (HG.out.alloc (.cells #[.int .u64 (v1 : Nat), .string t1, .bool true] 113))
  have m := ((Gr.refl w3).alloc (.cells #[.int .u64 (v1 : Nat), .string t1, .bool true] 113))
  have k0 := m.cell p0
  have k1 := m.cell p1
  have j0 : (w3.alloc (.cells #[.int .u64 (v1 : Nat), .string t1, .bool true] 113)).cell? ⟨w3.heap.size, 0, none⟩ = some (.int .u64 (v1 : Nat)) := new_cell rfl rfl
  have j1 : (w3.alloc (.cells #[.int .u64 (v1 : Nat), .string t1, .bool true] 113)).cell? ⟨w3.heap.size, 1, none⟩ = some (.string t1) := new_cell rfl rfl
  clear m
  generalize w2.heap.size = ab at *
  go_wp2
  generalize w3.alloc (.cells #[.int .u64 (v1 : Nat), .string t1, .bool true] 113) = w4 at *
  go_region_with (fail)
  all_goals go_wp2
  all_goals refine bodyPost_ret (v := .tuple #[.int .u64 (v0 : Nat), .string t0, .int .i64 0]) (by simp [results, Try.results27, go_sem]; try rfl) rfl ?_
  all_goals exact ⟨rfl, by first | exact HG.out | exact HG4.out | exact HG4.out.drew | exact HG4.out.drew.drew⟩
def ROIs (a b : ByteArray) (w : World) (e : Ending) (w' : World) : Prop := Gr w w' ∧
  (((parseB b).2.2 = true ∧ (parseB a).1 = 0 ∧ e = .returned (.tuple #[.int .u64 0, .string ⟨#[]⟩, .int .i64 7])) ∨
   (¬ ((parseB b).2.2 = true ∧ (parseB a).1 = 0) ∧ e = .returned (.tuple #[.int .u64 ((best (parseB a).1 (parseB a).2.1 (parseB b).1 (parseB b).2.1).1 : Nat), .string (best (parseB a).1 (parseB a).2.1 (parseB b).1 (parseB b).2.1).2, .int .i64 0])))
theorem refOpen2_any (a b : ByteArray) (w : World) (ha : a.size ≤ 500000) (hb : b.size ≤ 500000) : Calls Try.prog 27 #[.string a, .string b] w (ROIs a b w) := by
  obtain ⟨v0, t0, b0, h0⟩ : ∃ v t c, parseB a = (v, t, c) := ⟨_, _, _, rfl⟩
  obtain ⟨v1, t1, b1, h1⟩ : ∃ v t c, parseB b = (v, t, c) := ⟨_, _, _, rfl⟩
  have RA : Hid (∀ w, Calls Try.prog 57 #[.string a] w fun e w' => e = .returned (.agg #[.int .u64 (v0 : Nat), .string t0, .bool b0]) ∧ Gr w w') := Lib.hid fun w => (refParse_any a w ha).mono fun e w' h => by
    unfold RPIs at h; rwa [h0] at h
  have RB : Hid (∀ w, Calls Try.prog 57 #[.string b] w fun e w' => e = .returned (.agg #[.int .u64 (v1 : Nat), .string t1, .bool b1]) ∧ Gr w w') := Lib.hid fun w => (refParse_any b w hb).mono fun e w' h => by
    unfold RPIs at h; rwa [h1] at h
  have zero : v0 = 0 → b0 = true ∨ (b0 = false ∧ a.toList.isEmpty = true) := fun hz => by
    rcases parse_ways a with ⟨e1, e2⟩ | ⟨e1, _, e2⟩ | ⟨_, e2⟩ <;> rw [h0] at e2 <;> simp only [Prod.mk.injEq] at e2
    · right; exact ⟨e2.2.2, by rw [e1]; decide +kernel⟩
    · omega
    · left; exact e2.2.2
  have some0 : v0 ≠ 0 → b0 = false ∧ a.toList.isEmpty = false := fun hz => by
    rcases parse_ways a with ⟨e1, e2⟩ | ⟨e1, e3, e2⟩ | ⟨_, e2⟩ <;> rw [h0] at e2 <;> simp only [Prod.mk.injEq] at e2
    · exact absurd e2.1 hz
    · refine ⟨e2.2.2, isEmpty_of ?_⟩
      rw [e3, spell_size]; omega
    · exact absurd e2.1 hz
  unfold ROIs
  rw [h0, h1]
  simp only
  by_cases hz : v0 = 0
  · have f0 : ((v0 : Int) == 0) = true := by simp [hz]
    cases b1
    · by_cases hy : v1 = 0
      · refine (refOpen_gz a b t0 t1 v0 v1 b0 w RA RB f0 (by simp [hy])).mono ?_
        rintro e w' ⟨rfl, hg⟩
        refine ⟨hg, .inr ⟨by simp, ?_⟩⟩
        unfold best; rw [if_neg (by omega), if_pos hz]; rfl
      · refine (refOpen_gy a b t0 t1 v0 v1 b0 w RA RB f0 (by simp [hy]) (by omega)).mono ?_
        rintro e w' ⟨rfl, hg⟩
        refine ⟨hg, .inr ⟨by simp, ?_⟩⟩
        unfold best; rw [if_pos (by omega)]
    · rcases zero hz with rfl | ⟨rfl, f⟩
      · refine (refOpen_bad1 a b t0 t1 v0 v1 w RA RB).mono ?_
        rintro e w' ⟨rfl, hg⟩
        exact ⟨hg, .inl ⟨rfl, hz, rfl⟩⟩
      · refine (refOpen_bad2 a b t0 t1 v0 v1 w RA RB f).mono ?_
        rintro e w' ⟨rfl, hg⟩
        exact ⟨hg, .inl ⟨rfl, hz, rfl⟩⟩
  · have f0 : ((v0 : Int) == 0) = false := by simp [hz]
    obtain ⟨rfl, f⟩ := some0 hz
    by_cases hlt : v0 < v1
    · cases b1
      · refine (refOpen_gb a b t0 t1 v0 v1 false w RA RB f0 (by omega)).mono ?_
        rintro e w' ⟨rfl, hg⟩
        refine ⟨hg, .inr ⟨by simp, ?_⟩⟩
        unfold best; rw [if_pos hlt]
      · refine (refOpen_hb a b t0 t1 v0 v1 w RA RB f f0 (by omega)).mono ?_
        rintro e w' ⟨rfl, hg⟩
        refine ⟨hg, .inr ⟨by simp [hz], ?_⟩⟩
        unfold best; rw [if_pos hlt]
    · cases b1
      · refine (refOpen_ga a b t0 t1 v0 v1 false w RA RB f0 (by omega)).mono ?_
        rintro e w' ⟨rfl, hg⟩
        refine ⟨hg, .inr ⟨by simp, ?_⟩⟩
        unfold best; rw [if_neg hlt, if_neg hz]
      · refine (refOpen_ha a b t0 t1 v0 v1 w RA RB f f0 (by omega)).mono ?_
        rintro e w' ⟨rfl, hg⟩
        refine ⟨hg, .inr ⟨by simp [hz], ?_⟩⟩
        unfold best; rw [if_neg hlt, if_neg hz]
end Go.Proofs.Ytfcfbecfamemlaa
