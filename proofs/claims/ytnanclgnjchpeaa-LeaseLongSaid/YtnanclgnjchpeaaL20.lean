import Derived.Test.YtnanclgnjchpeaaF09b
import Derived.Test.YtnanclgnjchpeaaF04b
import Derived.Test.YtnanclgnjchpeaaC25
import Derived.Test.YtnanclgnjchpeaaC17
import Derived.WalkKit
import Derived.ProofKit
import Derived.LoopTactic
import Derived.Outline
import Derived.WalkSpells
import Derived.WalkLawsBesides
import Derived.Lib.Hide
import Derived.Deep.LoopGhost
import Derived.Deep.QuietTactic
import Derived.BigQuiet
import Derived.ShutString
import Derived.IntWalk
import Derived.Lib.MinMax
import Derived.BigQuiet
import Derived.Deep.RegionWith
import Derived.Deep.RegionHeld3
namespace Go.Proofs.Ytnanclgnjchpeaa
open Go.ChangeShapes Go.WideShapes Go.ChangeAt Go.RowKit
open Grids Rates
set_option linter.unusedVariables false
set_option linter.unusedSimpArgs false
theorem rgt1 : Rgt 1 1 0 1 1 1 1 := ⟨⟨by decide, by decide, by decide, by decide, by decide, by decide, by decide⟩, by decide⟩
def lsCells (asked : Int) (vp : Value) (held : Bool) (til : Int) : Array Value := #[.int .i64 1, .int .i64 1, .int .u32 0, .int .i64 1, .int .i64 1, .int .i64 1, .int .i64 1, .int .i64 10, .int .i64 asked, vp, .bool held, .int .i64 til, .bool false]
theorem lsLimited_any (x : Int) (w : World) : Calls Try.prog 122 #[.int .i64 x] w fun e w' => e = .returned (.int .i64 (min (max x 0) 65536)) ∧ w' = w := by
  go_enter Try.func122, Try.ntmps122
  go_wp2
  go_ret
  exact ⟨rfl, rfl⟩
set_option maxRecDepth 100000 in
theorem lsNew_any (w : World) : Calls Try.prog 116 #[.agg #[.int .i64 1, .int .i64 1, .int .u32 0, .int .i64 1, .int .i64 1, .int .i64 1, .int .i64 1], .int .i64 10] w fun e w' => ∃ b, e = .returned (.pointer (some ⟨b, 0, none⟩)) ∧ w.heap.size ≤ b ∧ Blk w' b (lsCells 0 (.pointer none) false 0) 219 ∧ Gr w w' := by
  have HL := Lib.hid (fun w => lsLimited_any 10 w)
  have h10 : min (max (10 : Int) 0) 65536 = 10 := by decide
  rw [h10] at HL
  have HG := Lib.hid (((Gr.refl w).alloc (.cells #[.int .i64 1, .int .i64 1, .int .u32 0, .int .i64 1, .int .i64 1, .int .i64 1, .int .i64 1] 188)).drew)
  have HGa := Lib.hid ((Gr.refl w).alloc (.cells #[.int .i64 1, .int .i64 1, .int .u32 0, .int .i64 1, .int .i64 1, .int .i64 1, .int .i64 1] 188))
  have HB := Lib.hid ((Blk.new w #[.int .i64 1, .int .i64 1, .int .u32 0, .int .i64 1, .int .i64 1, .int .i64 1, .int .i64 1] 188).gr (Gr.refl _).drew)
  have d0 := HB.out.cell (i := 0) rfl
  have d1 := HB.out.cell (i := 1) rfl
  have d2 := HB.out.cell (i := 2) rfl
  have d3 := HB.out.cell (i := 3) rfl
  have d4 := HB.out.cell (i := 4) rfl
  have d5 := HB.out.cell (i := 5) rfl
  have d6 := HB.out.cell (i := 6) rfl
  go_enter Try.func116, Try.ntmps116
  go_wp2_with fail
  generalize w.alloc (.cells #[.int .i64 1, .int .i64 1, .int .u32 0, .int .i64 1, .int .i64 1, .int .i64 1, .int .i64 1] 188) = wa at *
  refine wp_region_held_drew (S := (fun w9 => w9.cell? ⟨w.heap.size, 0, none⟩ = some (.int .i64 1) ∧ w9.cell? ⟨w.heap.size, 1, none⟩ = some (.int .i64 1) ∧ w9.cell? ⟨w.heap.size, 2, none⟩ = some (.int .u32 0) ∧ w9.cell? ⟨w.heap.size, 3, none⟩ = some (.int .i64 1) ∧ w9.cell? ⟨w.heap.size, 4, none⟩ = some (.int .i64 1) ∧ w9.cell? ⟨w.heap.size, 5, none⟩ = some (.int .i64 1) ∧ w9.cell? ⟨w.heap.size, 6, none⟩ = some (.int .i64 1))) (by kernel_rfl) ?invn (fun h0 => ?_)
  case invn => ((try dsimp only); (exact ⟨d0, d1, d2, d3, d4, d5, d6⟩))
  refine wpAnyH_take (i := 0) (oi := { dst := some 5, op := Go.Op.load 188 (Go.Operand.tmp 2), type := 188, pos := "lease.go:26", after := #[], guard := none }) (v := ?vn1) rfl (by kernel_rfl) (by kernel_rfl) (by kernel_rfl) (fun _ _ _ h => h) (Or.inl ⟨by rfl, ?rn1⟩) (by assumption) ?_
  case rn1 => (intro w hSw; (try dsimp only at hSw); (go_simp <;> with_reducible rfl))
  try simp only [Act.put, List.setIfInBounds_toArray, List.set_cons_zero, List.set_cons_succ]
  refine wpAnyH_take (i := 1) (oi := { dst := some 6, op := Go.Op.move (Go.Operand.tmp 1), type := 3, pos := "lease.go:26", after := #[], guard := none }) (v := ?vn2) rfl (by kernel_rfl) (by kernel_rfl) (by kernel_rfl) (fun _ _ _ h => h) (Or.inl ⟨by rfl, ?rn2⟩) (by assumption) ?_
  case rn2 => (intro w hSw; (try dsimp only at hSw); (go_simp <;> with_reducible rfl))
  try simp only [Act.put, List.setIfInBounds_toArray, List.set_cons_zero, List.set_cons_succ]
  refine wpAnyH_ready (rs := [2]) (by kernel_rfl) (by simp) ?_
  refine AllReadyH.cons (o := { dst := some 7, op := Go.Op.call { callee := Go.Callee.value (Go.Operand.func 122), args := #[Go.Operand.tmp 6], argTypes := #[3] }, type := 3, pos := "lease.go:26", after := #[{ on := 1, ground := Go.Ground.data }], guard := none }) rfl (fun K hK => ?_) AllReadyH.nil
  go_simp
  go_at_call 122
  refine (HL.out _).mono ?_
  rintro e w3 ⟨rfl, rfl⟩
  first | refine hK.out _ _ ?sn3 (fun h3 => ?_) | (go_wp2_with fail; refine hK.out _ _ ?sn3 (fun h3 => ?_))
  case sn3 => ((try dsimp only); (exact h0))
  clear hK K h0
  try simp only [Act.put, List.setIfInBounds_toArray, List.set_cons_zero, List.set_cons_succ]
  refine wpAnyH_take (i := 3) (oi := { dst := some 8, op := Go.Op.build 219 #[(0, Go.Operand.tmp 5), (1, Go.Operand.tmp 7)], type := 219, pos := "lease.go:26", after := #[{ on := 0, ground := Go.Ground.data }, { on := 2, ground := Go.Ground.data }], guard := none }) (v := ?vn4) rfl (by kernel_rfl) (by kernel_rfl) (by kernel_rfl) (fun _ _ _ h => h) (Or.inl ⟨by rfl, ?rn4⟩) (by assumption) ?_
  case rn4 => (intro w hSw; (try dsimp only at hSw); (go_simp <;> with_reducible rfl))
  try simp only [Act.put, List.setIfInBounds_toArray, List.set_cons_zero, List.set_cons_succ]
  refine wpAnyH_ready (rs := [4]) (by kernel_rfl) (by simp) ?_
  refine AllReadyH.cons (o := { dst := some 9, op := Go.Op.box 219 (Go.Operand.tmp 8), type := 182, pos := "lease.go:26", after := #[{ on := 3, ground := Go.Ground.data }], guard := none }) rfl (fun K hK => ?_) AllReadyH.nil
  go_simp
  skip
  first | refine hK.out _ _ ?sn5 (fun h5 => ?_) | (go_wp2_with fail; refine hK.out _ _ ?sn5 (fun h5 => ?_))
  case sn5 => ((try dsimp only); (exact ⟨((Gr.refl _).alloc _).cell h3.1, ((Gr.refl _).alloc _).cell h3.2.1, ((Gr.refl _).alloc _).cell h3.2.2.1, ((Gr.refl _).alloc _).cell h3.2.2.2.1, ((Gr.refl _).alloc _).cell h3.2.2.2.2.1, ((Gr.refl _).alloc _).cell h3.2.2.2.2.2.1, ((Gr.refl _).alloc _).cell h3.2.2.2.2.2.2⟩))
  clear hK K h3
  try simp only [Act.put, List.setIfInBounds_toArray, List.set_cons_zero, List.set_cons_succ]
  refine wpAnyH_take (i := 5) (oi := { dst := some 4, op := Go.Op.assign (Go.Operand.tmp 9), type := 182, pos := "lease.go:26", after := #[{ on := 4, ground := Go.Ground.data }, { on := 2, ground := Go.Ground.chain }, { on := 0, ground := Go.Ground.phase }, { on := 1, ground := Go.Ground.phase }, { on := 2, ground := Go.Ground.phase }, { on := 3, ground := Go.Ground.phase }, { on := 4, ground := Go.Ground.phase }], guard := none }) (v := ?vn6) rfl (by kernel_rfl) (by kernel_rfl) (by kernel_rfl) (fun _ _ _ h => h) (Or.inl ⟨by rfl, ?rn6⟩) (by assumption) ?_
  case rn6 => (intro w hSw; (try dsimp only at hSw); (go_simp <;> with_reducible rfl))
  try simp only [Act.put, List.setIfInBounds_toArray, List.set_cons_zero, List.set_cons_succ]
  refine wpAnyH_done (by kernel_rfl) ?_ _
  clear h5 d0 d1 d2 d3 d4 d5 d6
  go_wp2
  go_ret
  exact ⟨_, rfl, HGa.out.size, (Blk.new wa _ _).gr (Gr.refl _).drew, (HGa.out.alloc _).drew⟩
set_option maxRecDepth 100000 in
theorem lsAsk_any {b : Nat} (w0 w : World) (hb : w0.heap.size ≤ b) (hg0 : Gr w0 w) (h : Blk w b (lsCells 0 (.pointer none) false 0) 219) : Calls Try.prog 117 #[.pointer (some ⟨b, 0, none⟩), .int .i64 5] w fun e w' => ∃ bv, e = .returned (.bool true) ∧ Blk w' b (lsCells 5 (.pointer (some ⟨bv, 0, none⟩)) false 0) 219 ∧ VtIs w' bv 1 1 0 1 1 1 1 false 0 ∧ bv ≠ b ∧ w0.heap.size ≤ bv ∧ Gr w0 w' := by
  have HB := Lib.hid h
  have b0 : w.cell? ⟨b, 0, none⟩ = some (.int .i64 1) := h.cell (i := 0) rfl
  have b1 : w.cell? ⟨b, 1, none⟩ = some (.int .i64 1) := h.cell (i := 1) rfl
  have b2 : w.cell? ⟨b, 2, none⟩ = some (.int .u32 0) := h.cell (i := 2) rfl
  have b3 : w.cell? ⟨b, 3, none⟩ = some (.int .i64 1) := h.cell (i := 3) rfl
  have b4 : w.cell? ⟨b, 4, none⟩ = some (.int .i64 1) := h.cell (i := 4) rfl
  have b5 : w.cell? ⟨b, 5, none⟩ = some (.int .i64 1) := h.cell (i := 5) rfl
  have b6 : w.cell? ⟨b, 6, none⟩ = some (.int .i64 1) := h.cell (i := 6) rfl
  have b12 : w.cell? ⟨b, 12, none⟩ = some (.bool false) := h.cell (i := 12) rfl
  have HV := Lib.hid (fun w => vSecond_any 1 1 0 1 1 1 1 w)
  have HG0 := Lib.hid hg0
  clear h hg0
  go_enter Try.func117, Try.ntmps117
  go_wp2_with fail
  refine (HV.out _).mono ?_
  rintro e w1 ⟨bv, rfl, hbv, hv, hg⟩
  have HB1 := Lib.hid (HB.out.gr hg)
  have HVT := Lib.hid hv
  have HG1 := Lib.hid (HG0.out.trans hg)
  have HLT := Lib.hid HB.out.lt
  have HBV := Lib.hid hbv
  have c8 : w1.cell? ⟨b, 8, none⟩ = some (.int .i64 0) := HB1.out.cell (i := 8) rfl
  have c9 : w1.cell? ⟨b, 9, none⟩ = some (.pointer none) := HB1.out.cell (i := 9) rfl
  have f8 := HB1.out.free 8
  have f9 := HB1.out.free 9
  clear hv hg hbv
  go_wp2
  go_ret
  have hne : bv ≠ b := by have := HLT.out; have := HBV.out; omega
  have HS : Sole b w1 ((w1.setCell ⟨b, 8, none⟩ (.int .i64 5)).setCell ⟨b, 9, none⟩ (.pointer (some ⟨bv, 0, none⟩))) := (Sole.setCell b 8 w1 _).trans (Sole.setCell b 9 _ _)
  exact ⟨bv, rfl, (HB1.out.set 8 _).set 9 _, HS.vt hne HVT.out, hne, by have := HBV.out; have := HG0.out.size; omega, (HG1.out.setCell (p := ⟨b, 8, none⟩) hb _).setCell (p := ⟨b, 9, none⟩) hb _⟩
set_option maxRecDepth 100000 in
set_option maxHeartbeats 1000000 in
theorem lsGranted_any {b bv : Nat} (w0 w : World) (hb : w0.heap.size ≤ b) (hbv : w0.heap.size ≤ bv) (hg0 : Gr w0 w) (hne : bv ≠ b) (h : Blk w b (lsCells 5 (.pointer (some ⟨bv, 0, none⟩)) false 0) 219) (hv : VtIs w bv 1 1 0 1 1 1 1 false 0) : Calls Try.prog 118 #[.pointer (some ⟨b, 0, none⟩), .int .i64 0, .int .i64 5] w fun e w' => e = .returned (.bool true) ∧ Blk w' b (lsCells 5 (.pointer (some ⟨bv, 0, none⟩)) true 15) 219 ∧ Gr w0 w' := by
  have HB := Lib.hid h
  have HG0 := Lib.hid hg0
  have HA := Lib.hid (vAdd_any rgt1 0 (by decide) w hv)
  have HDN := Lib.hid (fun w (hv : VtIs w bv 1 1 0 1 1 1 1 false 1) => vDone_any rgt1 w hv)
  have HLA := Lib.hid (fun w => later_any 5 10 w)
  rw [show lim (lim 5 + lim 10) = 15 by decide] at HLA
  have b8 : w.cell? ⟨b, 8, none⟩ = some (.int .i64 5) := h.cell (i := 8) rfl
  have b9 : w.cell? ⟨b, 9, none⟩ = some (.pointer (some ⟨bv, 0, none⟩)) := h.cell (i := 9) rfl
  clear h hg0 hv
  go_enter Try.func118, Try.ntmps118
  go_wp2_with fail
  refine HA.out.mono ?_
  rintro e w1 ⟨rfl, hv1, hs1⟩
  have HV1 := Lib.hid (show VtIs w1 bv 1 1 0 1 1 1 1 false 1 from hv1)
  have HB1 := Lib.hid (show Blk w1 b (lsCells 5 (.pointer (some ⟨bv, 0, none⟩)) false 0) 219 from (hs1.block b HB.out.lt hne.symm).trans HB.out)
  have HG1 := Lib.hid (hs1.gr HG0.out hbv)
  have b9 : w1.cell? ⟨b, 9, none⟩ = some (.pointer (some ⟨bv, 0, none⟩)) := HB1.out.cell (i := 9) rfl
  rw [show freshB 1 1 0 0 = true by decide]
  clear hv1 hs1 HA b8
  go_wp2_with fail
  refine (HDN.out _ HV1.out).mono ?_
  rintro e w2 ⟨rfl, hg2⟩
  rw [show isQ 1 1 (kz false 1 1) (kz false 1 1) 1 = true by decide]
  have HB2 := Lib.hid (HB1.out.gr hg2)
  have HG2 := Lib.hid (HG1.out.trans hg2)
  have HBD := Lib.hid (HB2.out.gr (Gr.refl w2).drew)
  have HGD := Lib.hid (HG2.out.trans (Gr.refl w2).drew)
  have d7 : w2.drew.cell? ⟨b, 7, none⟩ = some (.int .i64 10) := HBD.out.cell (i := 7) rfl
  have d11 : w2.drew.cell? ⟨b, 11, none⟩ = some (.int .i64 0) := HBD.out.cell (i := 11) rfl
  clear hg2 HDN
  go_wp2_with fail
  refine late_start (fun i => decide (18 ≤ i)) (fun w9 => w9.cell? ⟨b, 7, none⟩ = some (.int .i64 10) ∧ w9.cell? ⟨b, 11, none⟩ = some (.int .i64 0)) (by kernel_rfl) ?inva (fun h0 => ?_)
  case inva => ((try dsimp only); (exact ⟨d7, d11⟩))
  refine late_take (i := 0) (oi := { dst := some 37, op := Go.Op.move (Go.Operand.tmp 0), type := 182, pos := "lease.go:45", after := #[], guard := none }) (v := ?va1) rfl (by kernel_rfl) (by kernel_rfl) (by kernel_rfl) (by kernel_rfl) (by kernel_rfl) (fun _ _ _ h => h) (Or.inl ⟨by rfl, ?ra1⟩) (by assumption) ?_
  case ra1 => (intro w hSw; (try dsimp only at hSw); (go_simp <;> with_reducible rfl))
  try simp only [Act.put, List.setIfInBounds_toArray, List.set_cons_zero, List.set_cons_succ]
  refine late_take (i := 1) (oi := { dst := some 38, op := Go.Op.move (Go.Operand.tmp 0), type := 182, pos := "lease.go:45", after := #[{ on := 15, ground := Go.Ground.gcOnly Go.Departure.lateStores }], guard := none }) (v := ?va2) rfl (by kernel_rfl) (by kernel_rfl) (by kernel_rfl) (by kernel_rfl) (by kernel_rfl) (fun _ _ _ h => h) (Or.inl ⟨by rfl, ?ra2⟩) (by assumption) ?_
  case ra2 => (intro w hSw; (try dsimp only at hSw); (go_simp <;> with_reducible rfl))
  try simp only [Act.put, List.setIfInBounds_toArray, List.set_cons_zero, List.set_cons_succ]
  refine late_take (i := 2) (oi := { dst := some 39, op := Go.Op.move (Go.Operand.tmp 0), type := 182, pos := "lease.go:45", after := #[], guard := none }) (v := ?va3) rfl (by kernel_rfl) (by kernel_rfl) (by kernel_rfl) (by kernel_rfl) (by kernel_rfl) (fun _ _ _ h => h) (Or.inl ⟨by rfl, ?ra3⟩) (by assumption) ?_
  case ra3 => (intro w hSw; (try dsimp only at hSw); (go_simp <;> with_reducible rfl))
  try simp only [Act.put, List.setIfInBounds_toArray, List.set_cons_zero, List.set_cons_succ]
  refine late_take (i := 3) (oi := { dst := some 40, op := Go.Op.nilCheck (Go.Operand.tmp 39), type := 0, pos := "lease.go:45", after := #[{ on := 2, ground := Go.Ground.data }], guard := none }) (v := ?va4) rfl (by kernel_rfl) (by kernel_rfl) (by kernel_rfl) (by kernel_rfl) (by kernel_rfl) (fun _ _ _ h => h) (Or.inl ⟨by rfl, ?ra4⟩) (by assumption) ?_
  case ra4 => (intro w hSw; (try dsimp only at hSw); (go_simp <;> with_reducible rfl))
  try simp only [Act.put, List.setIfInBounds_toArray, List.set_cons_zero, List.set_cons_succ]
  refine late_take (i := 4) (oi := { dst := some 41, op := Go.Op.fieldAddr 219 (Go.Operand.tmp 40) 5, type := 0, pos := "lease.go:45", after := #[{ on := 3, ground := Go.Ground.data }], guard := none }) (v := ?va5) rfl (by kernel_rfl) (by kernel_rfl) (by kernel_rfl) (by kernel_rfl) (by kernel_rfl) (fun _ _ _ h => h) (Or.inl ⟨by rfl, ?ra5⟩) (by assumption) ?_
  case ra5 => (intro w hSw; (try dsimp only at hSw); (go_simp <;> with_reducible rfl))
  try simp only [Act.put, List.setIfInBounds_toArray, List.set_cons_zero, List.set_cons_succ]
  refine late_take (i := 5) (oi := { dst := some 42, op := Go.Op.load 3 (Go.Operand.tmp 41), type := 3, pos := "lease.go:45", after := #[{ on := 4, ground := Go.Ground.data }], guard := none }) (v := ?va6) rfl (by kernel_rfl) (by kernel_rfl) (by kernel_rfl) (by kernel_rfl) (by kernel_rfl) (fun _ _ _ h => h) (Or.inl ⟨by rfl, ?ra6⟩) (by assumption) ?_
  case ra6 => (intro w hSw; (try dsimp only at hSw); (go_simp <;> with_reducible rfl))
  try simp only [Act.put, List.setIfInBounds_toArray, List.set_cons_zero, List.set_cons_succ]
  refine late_take (i := 6) (oi := { dst := some 43, op := Go.Op.move (Go.Operand.tmp 2), type := 3, pos := "lease.go:45", after := #[], guard := none }) (v := ?va7) rfl (by kernel_rfl) (by kernel_rfl) (by kernel_rfl) (by kernel_rfl) (by kernel_rfl) (fun _ _ _ h => h) (Or.inl ⟨by rfl, ?ra7⟩) (by assumption) ?_
  case ra7 => (intro w hSw; (try dsimp only at hSw); (go_simp <;> with_reducible rfl))
  try simp only [Act.put, List.setIfInBounds_toArray, List.set_cons_zero, List.set_cons_succ]
  refine late_take (i := 7) (oi := { dst := some 44, op := Go.Op.move (Go.Operand.tmp 0), type := 182, pos := "lease.go:45", after := #[], guard := none }) (v := ?va8) rfl (by kernel_rfl) (by kernel_rfl) (by kernel_rfl) (by kernel_rfl) (by kernel_rfl) (fun _ _ _ h => h) (Or.inl ⟨by rfl, ?ra8⟩) (by assumption) ?_
  case ra8 => (intro w hSw; (try dsimp only at hSw); (go_simp <;> with_reducible rfl))
  try simp only [Act.put, List.setIfInBounds_toArray, List.set_cons_zero, List.set_cons_succ]
  refine late_take (i := 8) (oi := { dst := some 45, op := Go.Op.nilCheck (Go.Operand.tmp 44), type := 0, pos := "lease.go:45", after := #[{ on := 7, ground := Go.Ground.data }], guard := none }) (v := ?va9) rfl (by kernel_rfl) (by kernel_rfl) (by kernel_rfl) (by kernel_rfl) (by kernel_rfl) (fun _ _ _ h => h) (Or.inl ⟨by rfl, ?ra9⟩) (by assumption) ?_
  case ra9 => (intro w hSw; (try dsimp only at hSw); (go_simp <;> with_reducible rfl))
  try simp only [Act.put, List.setIfInBounds_toArray, List.set_cons_zero, List.set_cons_succ]
  refine late_take (i := 9) (oi := { dst := some 46, op := Go.Op.fieldAddr 219 (Go.Operand.tmp 45) 1, type := 0, pos := "lease.go:45", after := #[{ on := 8, ground := Go.Ground.data }], guard := none }) (v := ?va10) rfl (by kernel_rfl) (by kernel_rfl) (by kernel_rfl) (by kernel_rfl) (by kernel_rfl) (fun _ _ _ h => h) (Or.inl ⟨by rfl, ?ra10⟩) (by assumption) ?_
  case ra10 => (intro w hSw; (try dsimp only at hSw); (go_simp <;> with_reducible rfl))
  try simp only [Act.put, List.setIfInBounds_toArray, List.set_cons_zero, List.set_cons_succ]
  refine late_take (i := 10) (oi := { dst := some 47, op := Go.Op.load 3 (Go.Operand.tmp 46), type := 3, pos := "lease.go:45", after := #[{ on := 9, ground := Go.Ground.data }], guard := none }) (v := ?va11) rfl (by kernel_rfl) (by kernel_rfl) (by kernel_rfl) (by kernel_rfl) (by kernel_rfl) (fun _ _ _ h => h) (Or.inl ⟨by rfl, ?ra11⟩) (by assumption) ?_
  case ra11 => (intro w hSw; (try dsimp only at hSw); (go_simp <;> with_reducible rfl))
  try simp only [Act.put, List.setIfInBounds_toArray, List.set_cons_zero, List.set_cons_succ]
  refine late_ready (rs := [11]) (by kernel_rfl) (by simp) ?_
  refine LateAll.cons (o := { dst := some 48, op := Go.Op.call { callee := Go.Callee.value (Go.Operand.func 145), args := #[Go.Operand.tmp 43, Go.Operand.tmp 47], argTypes := #[3, 3] }, type := 3, pos := "lease.go:45", after := #[{ on := 6, ground := Go.Ground.data }, { on := 10, ground := Go.Ground.data }], guard := none }) rfl (fun K hK => ?_) LateAll.nil
  go_simp
  go_at_call 145
  refine (HLA.out _).mono ?_
  rintro e w3 ⟨rfl, rfl⟩
  first | refine hK.out _ _ ?sa12 (fun h12 => ?_) | (go_wp2_with fail; refine hK.out _ _ ?sa12 (fun h12 => ?_))
  case sa12 => ((try dsimp only); (first | exact h0 | exact ⟨(((HB2.out.set 10 (.bool true)).gr (Gr.refl _).drew).cell (i := 7) rfl), (((HB2.out.set 10 (.bool true)).gr (Gr.refl _).drew).cell (i := 11) rfl)⟩))
  clear hK K h0
  try simp only [Act.put, List.setIfInBounds_toArray, List.set_cons_zero, List.set_cons_succ]
  refine late_take (i := 12) (oi := { dst := some 49, op := Go.Op.call { callee := Go.Callee.builtin Go.Builtin.max, args := #[Go.Operand.tmp 42, Go.Operand.tmp 48], argTypes := #[3, 3] }, type := 3, pos := "lease.go:45", after := #[{ on := 5, ground := Go.Ground.data }, { on := 11, ground := Go.Ground.data }], guard := none }) (v := (.int .i64 15)) rfl (by kernel_rfl) (by kernel_rfl) (by kernel_rfl) (by kernel_rfl) (by kernel_rfl) (fun _ _ _ h => h) (Or.inl ⟨by rfl, ?ra13⟩) (by assumption) ?_
  case ra13 => (intro w hSw; (try dsimp only at hSw); go_simp; all_goals (first | rfl | simp | decide))
  try simp only [Act.put, List.setIfInBounds_toArray, List.set_cons_zero, List.set_cons_succ]
  refine late_take (i := 13) (oi := { dst := some 50, op := Go.Op.nilCheck (Go.Operand.tmp 37), type := 0, pos := "lease.go:45", after := #[{ on := 0, ground := Go.Ground.data }, { on := 0, ground := Go.Ground.phase }, { on := 1, ground := Go.Ground.textOnly Go.Departure.lateStores }, { on := 2, ground := Go.Ground.textOnly Go.Departure.lateStores }, { on := 3, ground := Go.Ground.textOnly Go.Departure.lateStoresUnsure }, { on := 4, ground := Go.Ground.textOnly Go.Departure.lateStoresUnsure }, { on := 5, ground := Go.Ground.phase }, { on := 6, ground := Go.Ground.textOnly Go.Departure.lateStores }, { on := 7, ground := Go.Ground.textOnly Go.Departure.lateStores }, { on := 8, ground := Go.Ground.textOnly Go.Departure.lateStoresUnsure }, { on := 9, ground := Go.Ground.textOnly Go.Departure.lateStoresUnsure }, { on := 10, ground := Go.Ground.phase }, { on := 11, ground := Go.Ground.phase }, { on := 12, ground := Go.Ground.textOnly Go.Departure.lateStoresUnsure }], guard := none }) (v := ?va14) rfl (by kernel_rfl) (by kernel_rfl) (by kernel_rfl) (by kernel_rfl) (by kernel_rfl) (fun _ _ _ h => h) (Or.inl ⟨by rfl, ?ra14⟩) (by assumption) ?_
  case ra14 => (intro w hSw; (try dsimp only at hSw); (go_simp <;> with_reducible rfl))
  try simp only [Act.put, List.setIfInBounds_toArray, List.set_cons_zero, List.set_cons_succ]
  refine late_take (i := 14) (oi := { dst := some 51, op := Go.Op.fieldAddr 219 (Go.Operand.tmp 50) 4, type := 0, pos := "lease.go:45", after := #[{ on := 13, ground := Go.Ground.data }, { on := 0, ground := Go.Ground.phase }, { on := 1, ground := Go.Ground.textOnly Go.Departure.lateStores }, { on := 2, ground := Go.Ground.textOnly Go.Departure.lateStores }, { on := 3, ground := Go.Ground.textOnly Go.Departure.lateStoresUnsure }, { on := 4, ground := Go.Ground.textOnly Go.Departure.lateStoresUnsure }, { on := 5, ground := Go.Ground.phase }, { on := 6, ground := Go.Ground.textOnly Go.Departure.lateStores }, { on := 7, ground := Go.Ground.textOnly Go.Departure.lateStores }, { on := 8, ground := Go.Ground.textOnly Go.Departure.lateStoresUnsure }, { on := 9, ground := Go.Ground.textOnly Go.Departure.lateStoresUnsure }, { on := 10, ground := Go.Ground.phase }, { on := 11, ground := Go.Ground.phase }, { on := 12, ground := Go.Ground.textOnly Go.Departure.lateStoresUnsure }], guard := none }) (v := ?va15) rfl (by kernel_rfl) (by kernel_rfl) (by kernel_rfl) (by kernel_rfl) (by kernel_rfl) (fun _ _ _ h => h) (Or.inl ⟨by rfl, ?ra15⟩) (by assumption) ?_
  case ra15 => (intro w hSw; (try dsimp only at hSw); (go_simp <;> with_reducible rfl))
  try simp only [Act.put, List.setIfInBounds_toArray, List.set_cons_zero, List.set_cons_succ]
  refine late_ready (rs := [15]) (by kernel_rfl) (by simp) ?_
  refine LateAll.cons (o := { dst := none, op := Go.Op.store 4 (Go.Operand.tmp 51) (Go.Operand.const (Go.Value.bool true)), type := 0, pos := "lease.go:45", after := #[{ on := 14, ground := Go.Ground.data }, { on := 11, ground := Go.Ground.chain }, { on := 0, ground := Go.Ground.phase }, { on := 1, ground := Go.Ground.textOnly Go.Departure.lateStores }, { on := 2, ground := Go.Ground.textOnly Go.Departure.lateStores }, { on := 3, ground := Go.Ground.textOnly Go.Departure.lateStoresUnsure }, { on := 4, ground := Go.Ground.textOnly Go.Departure.lateStoresUnsure }, { on := 5, ground := Go.Ground.phase }, { on := 6, ground := Go.Ground.textOnly Go.Departure.lateStores }, { on := 7, ground := Go.Ground.textOnly Go.Departure.lateStores }, { on := 8, ground := Go.Ground.textOnly Go.Departure.lateStoresUnsure }, { on := 9, ground := Go.Ground.textOnly Go.Departure.lateStoresUnsure }, { on := 10, ground := Go.Ground.phase }, { on := 11, ground := Go.Ground.phase }, { on := 12, ground := Go.Ground.textOnly Go.Departure.lateStoresUnsure }], guard := none }) rfl (fun K hK => ?_) LateAll.nil
  have x10 : w2.drew.cell? ⟨b, 10, none⟩ = some (.bool false) := HBD.out.cell (i := 10) rfl
  have y10 := HBD.out.free 10
  have x10w : w2.cell? ⟨b, 10, none⟩ = some (.bool false) := HB2.out.cell (i := 10) rfl
  have y10w := HB2.out.free 10
  go_simp
  first | refine hK.out _ _ ?sa16 (fun h16 => ?_) | (go_wp2_with fail; refine hK.out _ _ ?sa16 (fun h16 => ?_))
  case sa16 => ((try dsimp only); (first | exact h12 | exact ⟨(((HB2.out.set 10 (.bool true)).gr (Gr.refl _).drew).cell (i := 7) rfl), (((HB2.out.set 10 (.bool true)).gr (Gr.refl _).drew).cell (i := 11) rfl)⟩))
  clear hK K h12
  try simp only [Act.put, List.setIfInBounds_toArray, List.set_cons_zero, List.set_cons_succ]
  refine late_take (i := 16) (oi := { dst := some 52, op := Go.Op.nilCheck (Go.Operand.tmp 38), type := 0, pos := "lease.go:45", after := #[{ on := 1, ground := Go.Ground.data }, { on := 0, ground := Go.Ground.phase }, { on := 1, ground := Go.Ground.phase }, { on := 2, ground := Go.Ground.phase }, { on := 3, ground := Go.Ground.phase }, { on := 4, ground := Go.Ground.phase }, { on := 5, ground := Go.Ground.phase }, { on := 6, ground := Go.Ground.phase }, { on := 7, ground := Go.Ground.phase }, { on := 8, ground := Go.Ground.phase }, { on := 9, ground := Go.Ground.phase }, { on := 10, ground := Go.Ground.phase }, { on := 11, ground := Go.Ground.phase }, { on := 12, ground := Go.Ground.phase }, { on := 13, ground := Go.Ground.phase }, { on := 14, ground := Go.Ground.phase }, { on := 15, ground := Go.Ground.phase }], guard := none }) (v := ?va17) rfl (by kernel_rfl) (by kernel_rfl) (by kernel_rfl) (by kernel_rfl) (by kernel_rfl) (fun _ _ _ h => h) (Or.inl ⟨by rfl, ?ra17⟩) (by assumption) ?_
  case ra17 => (intro w hSw; (try dsimp only at hSw); (go_simp <;> with_reducible rfl))
  try simp only [Act.put, List.setIfInBounds_toArray, List.set_cons_zero, List.set_cons_succ]
  refine late_take (i := 17) (oi := { dst := some 53, op := Go.Op.fieldAddr 219 (Go.Operand.tmp 52) 5, type := 0, pos := "lease.go:45", after := #[{ on := 16, ground := Go.Ground.data }, { on := 0, ground := Go.Ground.phase }, { on := 1, ground := Go.Ground.phase }, { on := 2, ground := Go.Ground.phase }, { on := 3, ground := Go.Ground.phase }, { on := 4, ground := Go.Ground.phase }, { on := 5, ground := Go.Ground.phase }, { on := 6, ground := Go.Ground.phase }, { on := 7, ground := Go.Ground.phase }, { on := 8, ground := Go.Ground.phase }, { on := 9, ground := Go.Ground.phase }, { on := 10, ground := Go.Ground.phase }, { on := 11, ground := Go.Ground.phase }, { on := 12, ground := Go.Ground.phase }, { on := 13, ground := Go.Ground.phase }, { on := 14, ground := Go.Ground.phase }, { on := 15, ground := Go.Ground.phase }], guard := none }) (v := ?va18) rfl (by kernel_rfl) (by kernel_rfl) (by kernel_rfl) (by kernel_rfl) (by kernel_rfl) (fun _ _ _ h => h) (Or.inl ⟨by rfl, ?ra18⟩) (by assumption) ?_
  case ra18 => (intro w hSw; (try dsimp only at hSw); (go_simp <;> with_reducible rfl))
  try simp only [Act.put, List.setIfInBounds_toArray, List.set_cons_zero, List.set_cons_succ]
  have x11c : w2.cell? ⟨b, 11, none⟩ = some (.int .i64 0) := HB2.out.cell (i := 11) rfl
  have y11c := HB2.out.free 11
  refine late_go (by kernel_rfl) ?_
  refine any_one (i := 18) (o := { dst := none, op := Go.Op.store 3 (Go.Operand.tmp 53) (Go.Operand.tmp 49), type := 0, pos := "lease.go:45", after := #[{ on := 17, ground := Go.Ground.data }, { on := 12, ground := Go.Ground.data }, { on := 15, ground := Go.Ground.chain }, { on := 0, ground := Go.Ground.phase }, { on := 1, ground := Go.Ground.phase }, { on := 2, ground := Go.Ground.phase }, { on := 3, ground := Go.Ground.phase }, { on := 4, ground := Go.Ground.phase }, { on := 5, ground := Go.Ground.phase }, { on := 6, ground := Go.Ground.phase }, { on := 7, ground := Go.Ground.phase }, { on := 8, ground := Go.Ground.phase }, { on := 9, ground := Go.Ground.phase }, { on := 10, ground := Go.Ground.phase }, { on := 11, ground := Go.Ground.phase }, { on := 12, ground := Go.Ground.phase }, { on := 13, ground := Go.Ground.phase }, { on := 14, ground := Go.Ground.phase }, { on := 15, ground := Go.Ground.phase }], guard := none }) (by kernel_rfl) rfl (fun K hK => ?_)
  go_simp
  refine hK.out _ _ ?_
  clear hK K
  try simp only [Act.put, List.setIfInBounds_toArray, List.set_cons_zero, List.set_cons_succ]
  refine any_done (by kernel_rfl) ?_
  clear h16 d7 d11 x10 y10 x10w y10w x11c y11c
  go_wp2
  go_ret
  exact ⟨rfl, ((HB2.out.set 10 _).set 11 _).gr (Gr.refl _).drew, ((HG2.out.setCell (p := ⟨b, 10, none⟩) hb _).setCell (p := ⟨b, 11, none⟩) hb _).drew⟩
theorem lsUntil_any {b : Nat} {vp : Value} (w : World) (h : Blk w b (lsCells 5 vp true 15) 219) : Calls Try.prog 119 #[.pointer (some ⟨b, 0, none⟩)] w fun e w' => e = .returned (.int .i64 15) ∧ w' = w := by
  have a0 : w.cell? ⟨b, 11, none⟩ = some (.int .i64 15) := h.cell (i := 11) rfl
  go_enter Try.func119, Try.ntmps119
  go_wp2
  go_ret
  exact ⟨rfl, rfl⟩
theorem lsHolds_any {b : Nat} {vp : Value} (t : Int) (w : World) (h : Blk w b (lsCells 5 vp true 15) 219) : Calls Try.prog 120 #[.pointer (some ⟨b, 0, none⟩), .int .i64 t] w fun e w' => e = .returned (.bool (decide (t < 15))) ∧ w' = w := by
  have a0 : w.cell? ⟨b, 11, none⟩ = some (.int .i64 15) := h.cell (i := 11) rfl
  have a1 : w.cell? ⟨b, 10, none⟩ = some (.bool true) := h.cell (i := 10) rfl
  go_enter Try.func120, Try.ntmps120
  go_wp2
  go_ret
  exact ⟨rfl, rfl⟩
set_option maxRecDepth 100000 in
theorem awake20 (w : World) : Calls Try.prog 58 #[] w fun e w' => e = .returned (.bool true) ∧ Gr w w' := by
  go_enter Try.func58, Try.ntmps58
  go_wp2_with fail
  refine (lsNew_any _).mono ?_
  rintro e w1 ⟨b, rfl, hb, hB, hg⟩
  have HB1 := Lib.hid hB
  have HG1 := Lib.hid hg
  clear hB hg
  go_wp2_with fail
  refine (lsAsk_any w _ hb HG1.out HB1.out).mono ?_
  rintro e w2 ⟨bv, rfl, hB, hV, hne, hbv, hg⟩
  have HB2 := Lib.hid hB
  have HV2 := Lib.hid hV
  have HG2 := Lib.hid hg
  clear hB hV hg
  go_wp2_with fail
  refine (lsGranted_any w _ hb hbv HG2.out hne HB2.out HV2.out).mono ?_
  rintro e w3 ⟨rfl, hB, hg⟩
  have HB3 := Lib.hid hB
  have HG3 := Lib.hid hg
  clear hB hg
  go_wp2_with fail
  refine (lsUntil_any _ HB3.out).mono ?_
  rintro e w4 ⟨rfl, rfl⟩
  go_wp2_with fail
  refine (lsHolds_any 14 _ HB3.out).mono ?_
  rintro e w5 ⟨rfl, rfl⟩
  rw [show decide ((14 : Int) < 15) = true by decide]
  go_wp2_with fail
  refine (lsHolds_any 15 _ HB3.out).mono ?_
  rintro e w5 ⟨rfl, rfl⟩
  rw [show decide ((15 : Int) < 15) = false by decide]
  go_wp2
  go_ret
  exact ⟨rfl, HG3.out⟩
set_option maxRecDepth 100000 in
theorem lsLong_any (p q t : Int) (w : World) : Calls Try.prog 59 #[.agg #[.int .i64 p, .int .i64 q], .int .i64 t] w fun e w' => e = .returned (.int .i64 (longer p q (min (max t 0) 65536))) ∧ Gr w w' := by
  have HG := Lib.hid (((Gr.refl w).alloc (.cells #[.int .i64 p, .int .i64 q] 110)).drew)
  have HB := Lib.hid ((Blk.new w #[.int .i64 p, .int .i64 q] 110).gr (Gr.refl _).drew)
  have HLO := Lib.hid (fun w => longer_any p q (min (max t 0) 65536) w)
  have HLI := Lib.hid (fun w => lsLimited_any t w)
  generalize longer p q (min (max t 0) 65536) = L at *
  generalize min (max t 0) 65536 = m at *
  have d0 := HB.out.cell (i := 0) rfl
  have d1 := HB.out.cell (i := 1) rfl
  go_enter Try.func59, Try.ntmps59
  go_wp2_with fail
  generalize w.alloc (.cells #[.int .i64 p, .int .i64 q] 110) = wa at *
  generalize w.heap.size = pa at *
  refine wp_region_held_drew (S := (fun w9 => w9.cell? ⟨pa, 0, none⟩ = some (.int .i64 p) ∧ w9.cell? ⟨pa, 1, none⟩ = some (.int .i64 q))) (by kernel_rfl) ?invb (fun h0 => ?_)
  case invb => ((try dsimp only); (exact ⟨d0, d1⟩))
  refine wpAnyH_take (i := 0) (oi := { dst := some 5, op := Go.Op.load 110 (Go.Operand.tmp 2), type := 110, pos := "lease.go:69", after := #[], guard := none }) (v := ?vb1) rfl (by kernel_rfl) (by kernel_rfl) (by kernel_rfl) (fun _ _ _ h => h) (Or.inl ⟨by rfl, ?rb1⟩) (by assumption) ?_
  case rb1 => (intro w hSw; (try dsimp only at hSw); (go_simp <;> with_reducible rfl))
  try simp only [Act.put, List.setIfInBounds_toArray, List.set_cons_zero, List.set_cons_succ]
  refine wpAnyH_take (i := 1) (oi := { dst := some 6, op := Go.Op.move (Go.Operand.tmp 1), type := 3, pos := "lease.go:69", after := #[], guard := none }) (v := ?vb2) rfl (by kernel_rfl) (by kernel_rfl) (by kernel_rfl) (fun _ _ _ h => h) (Or.inl ⟨by rfl, ?rb2⟩) (by assumption) ?_
  case rb2 => (intro w hSw; (try dsimp only at hSw); (go_simp <;> with_reducible rfl))
  try simp only [Act.put, List.setIfInBounds_toArray, List.set_cons_zero, List.set_cons_succ]
  refine wpAnyH_ready (rs := [2]) (by kernel_rfl) (by simp) ?_
  refine AllReadyH.cons (o := { dst := some 7, op := Go.Op.call { callee := Go.Callee.value (Go.Operand.func 122), args := #[Go.Operand.tmp 6], argTypes := #[3] }, type := 3, pos := "lease.go:69", after := #[{ on := 1, ground := Go.Ground.data }], guard := none }) rfl (fun K hK => ?_) AllReadyH.nil
  go_simp
  go_at_call 122
  refine (HLI.out _).mono ?_
  rintro e w3 ⟨rfl, rfl⟩
  first | refine hK.out _ _ ?sb3 (fun h3 => ?_) | (go_wp2_with fail; refine hK.out _ _ ?sb3 (fun h3 => ?_))
  case sb3 => ((try dsimp only); (exact h0))
  clear hK K h0
  try simp only [Act.put, List.setIfInBounds_toArray, List.set_cons_zero, List.set_cons_succ]
  refine wpAnyH_ready (rs := [3]) (by kernel_rfl) (by simp) ?_
  refine AllReadyH.cons (o := { dst := some 8, op := Go.Op.call { callee := Go.Callee.value (Go.Operand.func 121), args := #[Go.Operand.tmp 5, Go.Operand.tmp 7], argTypes := #[110, 3] }, type := 3, pos := "lease.go:69", after := #[{ on := 0, ground := Go.Ground.data }, { on := 2, ground := Go.Ground.data }, { on := 2, ground := Go.Ground.chain }], guard := none }) rfl (fun K hK => ?_) AllReadyH.nil
  go_simp
  go_at_call 121
  refine (HLO.out _).mono ?_
  rintro e w4 ⟨rfl, hg4⟩
  have HG4 := Lib.hid (HG.out.trans hg4)
  first | refine hK.out _ _ ?sb4 (fun h4 => ?_) | (go_wp2_with fail; refine hK.out _ _ ?sb4 (fun h4 => ?_))
  case sb4 => ((try dsimp only); (exact ⟨hg4.cell h3.1, hg4.cell h3.2⟩))
  clear hK K h3
  try simp only [Act.put, List.setIfInBounds_toArray, List.set_cons_zero, List.set_cons_succ]
  refine wpAnyH_take (i := 4) (oi := { dst := some 4, op := Go.Op.assign (Go.Operand.tmp 8), type := 3, pos := "lease.go:69", after := #[{ on := 3, ground := Go.Ground.data }, { on := 3, ground := Go.Ground.chain }, { on := 0, ground := Go.Ground.phase }, { on := 1, ground := Go.Ground.phase }, { on := 2, ground := Go.Ground.phase }, { on := 3, ground := Go.Ground.phase }], guard := none }) (v := ?vb5) rfl (by kernel_rfl) (by kernel_rfl) (by kernel_rfl) (fun _ _ _ h => h) (Or.inl ⟨by rfl, ?rb5⟩) (by assumption) ?_
  case rb5 => (intro w hSw; (try dsimp only at hSw); (go_simp <;> with_reducible rfl))
  try simp only [Act.put, List.setIfInBounds_toArray, List.set_cons_zero, List.set_cons_succ]
  refine wpAnyH_done (by kernel_rfl) ?_ _
  clear h4 d0 d1 hg4
  go_wp2
  go_ret
  exact ⟨rfl, HG4.out⟩
set_option maxRecDepth 100000 in
theorem leaseLong_walk (p q t : Int) (w : World) : Calls Try.prog 12 #[.int .i64 p, .int .i64 q, .int .i64 t] w fun e w' => e = .returned (.bool true) ∧ Gr w w' := by
  have HLO := Lib.hid (fun w => lsLong_any p q t w)
  have HRL := Lib.hid (fun w => refLonger_any p q (max 0 (min t 65536)) w)
  rw [show min (max t 0) 65536 = max 0 (min t 65536) by omega] at HLO
  generalize longer p q (max 0 (min t 65536)) = L at *
  generalize hm : max 0 (min t 65536) = m at *
  go_enter Try.func12, Try.ntmps12
  go_wp2_with fail
  refine (awake20 _).mono ?_
  rintro e w1 ⟨rfl, hg1⟩
  have HG1 := Lib.hid hg1
  clear hg1
  go_wp2_with fail
  refine (HLO.out _).mono ?_
  rintro e w2 ⟨rfl, hg2⟩
  have HG2 := Lib.hid (HG1.out.trans hg2)
  clear hg2
  go_wp2_with fail
  refine (HRL.out _).mono ?_
  rintro e w3 ⟨rfl, rfl⟩
  go_wp2
  go_ret
  exact ⟨by simp, HG2.out⟩
end Go.Proofs.Ytnanclgnjchpeaa
