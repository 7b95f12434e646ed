import Derived.Test.YtkfkedpldndgiaaF08f
import Derived.Test.YtkfkedpldndgiaaC16
import Derived.Test.YtkfkedpldndgiaaC17
import Derived.WalkKit
import Derived.ProofKit
import Derived.LoopTactic
import Derived.Outline
import Derived.WalkSpells
import Derived.WalkLawsBesides
import Derived.Lib.Hide
import Derived.Deep.LoopGhost
import Derived.Deep.QuietTactic
import Derived.BigQuiet
import Derived.ShutString
import Derived.IntWalk
import Derived.OpenShut
import Derived.Deep.RegionHeld3
namespace Go.Proofs.Ytkfkedpldndgiaa
open Go.ChangeShapes Go.WideShapes Go.ChangeAt Go.RowKit
open Bal
set_option linter.unusedVariables false
set_option linter.unusedSimpArgs false
theorem right08_det (N : Int) (c : Nat) : ∃ n : Nat, n ≤ 11 ∧ (c = 0 → n = 0) ∧ ∀ w : World, Calls Try.prog 46 #[.agg #[.int .u64 c, .int .i64 N]] w fun e w' => e = .returned (.agg #[.int .u64 c, .int .i64 n]) ∧ Gr w w' := by
  obtain ⟨n, hn, he⟩ := mod12 N
  by_cases hc : c = 0
  · subst hc
    refine ⟨0, by omega, fun _ => rfl, fun w => ?_⟩
    go_enter Try.func46, Try.ntmps46
    go_wp2
    exact bodyPost_ret (v := .agg #[.int .u64 0, .int .i64 0]) (by simp [results, Try.results46, go_sem]) rfl ⟨rfl, ((Gr.refl _).alloc _).alloc _⟩
  · have hc' : ((c : Int) == 0) = false := by simp; omega
    refine ⟨n, hn, fun h => absurd h hc, fun w => ?_⟩
    go_enter Try.func46, Try.ntmps46
    go_wp2
    exact bodyPost_ret (v := .agg #[.int .u64 c, .int .i64 n]) (by simp [results, Try.results46, go_sem, he]) rfl ⟨rfl, ((Gr.refl _).alloc _).alloc _⟩
set_option maxRecDepth 100000 in
set_option maxHeartbeats 4000000 in
theorem ballotOrder_walk (C0 N0 C1 N1 C2 N2 : Int) (w : World) (hC0 : (Lit.int .u64 C0).wf = true) (_hN0 : (Lit.int .i64 N0).wf = true) (hC1 : (Lit.int .u64 C1).wf = true) (_hN1 : (Lit.int .i64 N1).wf = true) (hC2 : (Lit.int .u64 C2).wf = true) (_hN2 : (Lit.int .i64 N2).wf = true) :
    Calls Try.prog 8 #[.agg #[.int .u64 C0, .int .i64 N0], .agg #[.int .u64 C1, .int .i64 N1], .agg #[.int .u64 C2, .int .i64 N2]] w fun e w' => e = .returned (.bool true) ∧ Gr w w' := by
  have bc0 := bounds_u64 hC0
  obtain ⟨c0, rfl⟩ := Int.eq_ofNat_of_zero_le bc0.1
  obtain ⟨m0, hm0, h00, r0⟩ := right08_det N0 c0
  have R0 := Lib.hid r0
  have bc1 := bounds_u64 hC1
  obtain ⟨c1, rfl⟩ := Int.eq_ofNat_of_zero_le bc1.1
  obtain ⟨m1, hm1, h01, r1⟩ := right08_det N1 c1
  have R1 := Lib.hid r1
  have bc2 := bounds_u64 hC2
  obtain ⟨c2, rfl⟩ := Int.eq_ofNat_of_zero_le bc2.1
  obtain ⟨m2, hm2, h02, r2⟩ := right08_det N2 c2
  have R2 := Lib.hid r2
  clear hC0 _hN0 r0 hC1 _hN1 r1 hC2 _hN2 r2
  go_enter Try.func8, Try.ntmps8
  go_wp2_with fail
  refine (awake08_any _).mono ?_
  rintro e w1 ⟨rfl, hg⟩
  have gA := (((Gr.refl (w.alloc (.cells #[.int .u64 (c0 : Nat), .int .i64 N0] 67))).alloc (.cells #[.int .u64 (c1 : Nat), .int .i64 N1] 67)).alloc (.cells #[.int .u64 (c2 : Nat), .int .i64 N2] 67)).trans hg
  have gB := ((Gr.refl ((w.alloc (.cells #[.int .u64 (c0 : Nat), .int .i64 N0] 67)).alloc (.cells #[.int .u64 (c1 : Nat), .int .i64 N1] 67))).alloc (.cells #[.int .u64 (c2 : Nat), .int .i64 N2] 67)).trans hg
  have z0 := gA.own.1 0 _ rfl
  have z1 := gA.own.1 1 _ rfl
  have f0 := gA.own.2.1 0
  have f1 := gA.own.2.1 1
  have z2 := gB.own.1 0 _ rfl
  have z3 := gB.own.1 1 _ rfl
  have f2 := gB.own.2.1 0
  have f3 := gB.own.2.1 1
  have z4 := hg.own.1 0 _ rfl
  have z5 := hg.own.1 1 _ rfl
  have f4 := hg.own.2.1 0
  have f5 := hg.own.2.1 1
  have s1 : (w.alloc (.cells #[.int .u64 (c0 : Nat), .int .i64 N0] 67)).heap.size = w.heap.size + 1 := by simp
  have s2 : ((w.alloc (.cells #[.int .u64 (c0 : Nat), .int .i64 N0] 67)).alloc (.cells #[.int .u64 (c1 : Nat), .int .i64 N1] 67)).heap.size = w.heap.size + 1 + 1 := by simp
  rw [s1] at z2 z3 f2 f3
  rw [s2] at z4 z5 f4 f5
  have HG := Lib.hid (((((Gr.refl w).alloc (.cells #[.int .u64 (c0 : Nat), .int .i64 N0] 67)).alloc (.cells #[.int .u64 (c1 : Nat), .int .i64 N1] 67)).alloc (.cells #[.int .u64 (c2 : Nat), .int .i64 N2] 67)).trans hg)
  clear s1 s2 gA gB hg
  go_wp2
  generalize hwb : w.heap.size = b at *
  generalize w1 = wz at *
  have HX : Hid (∀ w0 w9 : World, Gr w0 w9 → (fun w9 => Gr wz w9 ∧ w9.cell? ⟨b, 0, none⟩ = some (.int .u64 (c0 : Nat)) ∧ w9.cell? ⟨b, 1, none⟩ = some (.int .i64 N0) ∧ w9.cell? ⟨b + 1, 0, none⟩ = some (.int .u64 (c1 : Nat)) ∧ w9.cell? ⟨b + 1, 1, none⟩ = some (.int .i64 N1) ∧ w9.cell? ⟨b + 1 + 1, 0, none⟩ = some (.int .u64 (c2 : Nat)) ∧ w9.cell? ⟨b + 1 + 1, 1, none⟩ = some (.int .i64 N2)) w0 → (fun w9 => Gr wz w9 ∧ w9.cell? ⟨b, 0, none⟩ = some (.int .u64 (c0 : Nat)) ∧ w9.cell? ⟨b, 1, none⟩ = some (.int .i64 N0) ∧ w9.cell? ⟨b + 1, 0, none⟩ = some (.int .u64 (c1 : Nat)) ∧ w9.cell? ⟨b + 1, 1, none⟩ = some (.int .i64 N1) ∧ w9.cell? ⟨b + 1 + 1, 0, none⟩ = some (.int .u64 (c2 : Nat)) ∧ w9.cell? ⟨b + 1 + 1, 1, none⟩ = some (.int .i64 N2)) w9) := Lib.hid fun w0 w9 hg ⟨h, q0, q1, q2, q3, q4, q5⟩ => ⟨h.trans hg, hg.cell q0, hg.cell q1, hg.cell q2, hg.cell q3, hg.cell q4, hg.cell q5⟩
  have HS0 := And.intro (Gr.refl wz) (And.intro (z0) (And.intro (z1) (And.intro (z2) (And.intro (z3) (And.intro (z4) (z5))))))
  refine late_start (fun i => decide (6 ≤ i)) (fun w9 => Gr wz w9 ∧ w9.cell? ⟨b, 0, none⟩ = some (.int .u64 (c0 : Nat)) ∧ w9.cell? ⟨b, 1, none⟩ = some (.int .i64 N0) ∧ w9.cell? ⟨b + 1, 0, none⟩ = some (.int .u64 (c1 : Nat)) ∧ w9.cell? ⟨b + 1, 1, none⟩ = some (.int .i64 N1) ∧ w9.cell? ⟨b + 1 + 1, 0, none⟩ = some (.int .u64 (c2 : Nat)) ∧ w9.cell? ⟨b + 1 + 1, 1, none⟩ = some (.int .i64 N2)) (by kernel_rfl) ?inva (fun h0 => ?_)
  case inva => ((try dsimp only); (first | exact HS0 | exact HX.out _ _ ((Gr.refl _).drew) HS0))
  refine late_take (i := 0) (oi := { dst := some 14, op := Go.Op.load 67 (Go.Operand.tmp 3), type := 67, pos := "law.go:34", after := #[], guard := none }) (v := ?va1) rfl (by kernel_rfl) (by kernel_rfl) (by kernel_rfl) (by kernel_rfl) (by kernel_rfl) (fun _ _ _ h => h) (Or.inl ⟨by rfl, ?ra1⟩) (by assumption) ?_
  case ra1 => (intro w hSw; (try dsimp only at hSw); (go_simp <;> with_reducible rfl))
  try simp only [Act.put, List.setIfInBounds_toArray, List.set_cons_zero, List.set_cons_succ]
  refine late_take (i := 2) (oi := { dst := some 16, op := Go.Op.load 67 (Go.Operand.tmp 4), type := 67, pos := "law.go:34", after := #[], guard := none }) (v := ?va2) rfl (by kernel_rfl) (by kernel_rfl) (by kernel_rfl) (by kernel_rfl) (by kernel_rfl) (fun _ _ _ h => h) (Or.inl ⟨by rfl, ?ra2⟩) (by assumption) ?_
  case ra2 => (intro w hSw; (try dsimp only at hSw); (go_simp <;> with_reducible rfl))
  try simp only [Act.put, List.setIfInBounds_toArray, List.set_cons_zero, List.set_cons_succ]
  refine late_take (i := 4) (oi := { dst := some 18, op := Go.Op.load 67 (Go.Operand.tmp 5), type := 67, pos := "law.go:34", after := #[], guard := none }) (v := ?va3) rfl (by kernel_rfl) (by kernel_rfl) (by kernel_rfl) (by kernel_rfl) (by kernel_rfl) (fun _ _ _ h => h) (Or.inl ⟨by rfl, ?ra3⟩) (by assumption) ?_
  case ra3 => (intro w hSw; (try dsimp only at hSw); (go_simp <;> with_reducible rfl))
  try simp only [Act.put, List.setIfInBounds_toArray, List.set_cons_zero, List.set_cons_succ]
  refine late_ready (rs := [1]) (by kernel_rfl) (by simp) ?_
  refine LateAll.cons (o := { dst := some 15, op := Go.Op.call { callee := Go.Callee.value (Go.Operand.func 46), args := #[Go.Operand.tmp 14], argTypes := #[67] }, type := 67, pos := "law.go:34", after := #[{ on := 0, ground := Go.Ground.data }], guard := none }) rfl (fun K hK => ?_) LateAll.nil
  go_simp
  (go_at_call 46; refine (R0.out _).mono ?_; rintro e w9 ⟨rfl, hgN⟩)
  first | refine hK.out _ _ ?sa4 (fun h4 => ?_) | (go_wp2_with fail; refine hK.out _ _ ?sa4 (fun h4 => ?_))
  case sa4 => ((try dsimp only); exact HX.out _ _ hgN h0)
  clear hK K h0
  try simp only [Act.put, List.setIfInBounds_toArray, List.set_cons_zero, List.set_cons_succ]
  refine late_ready (rs := [3]) (by kernel_rfl) (by simp) ?_
  refine LateAll.cons (o := { dst := some 17, op := Go.Op.call { callee := Go.Callee.value (Go.Operand.func 46), args := #[Go.Operand.tmp 16], argTypes := #[67] }, type := 67, pos := "law.go:34", after := #[{ on := 2, ground := Go.Ground.data }, { on := 1, ground := Go.Ground.chain }], guard := none }) rfl (fun K hK => ?_) LateAll.nil
  go_simp
  (go_at_call 46; refine (R1.out _).mono ?_; rintro e w9 ⟨rfl, hgN⟩)
  first | refine hK.out _ _ ?sa5 (fun h5 => ?_) | (go_wp2_with fail; refine hK.out _ _ ?sa5 (fun h5 => ?_))
  case sa5 => ((try dsimp only); exact HX.out _ _ hgN h4)
  clear hK K h4
  try simp only [Act.put, List.setIfInBounds_toArray, List.set_cons_zero, List.set_cons_succ]
  refine late_ready (rs := [5]) (by kernel_rfl) (by simp) ?_
  refine LateAll.cons (o := { dst := some 19, op := Go.Op.call { callee := Go.Callee.value (Go.Operand.func 46), args := #[Go.Operand.tmp 18], argTypes := #[67] }, type := 67, pos := "law.go:34", after := #[{ on := 4, ground := Go.Ground.data }, { on := 3, ground := Go.Ground.chain }], guard := none }) rfl (fun K hK => ?_) LateAll.nil
  go_simp
  (go_at_call 46; refine (R2.out _).mono ?_; rintro e w9 ⟨rfl, hgN⟩)
  first | refine hK.out _ _ ?sa6 (fun h6 => ?_) | (go_wp2_with fail; refine hK.out _ _ ?sa6 (fun h6 => ?_))
  case sa6 => ((try dsimp only); exact HX.out _ _ hgN h5)
  clear hK K h5
  try simp only [Act.put, List.setIfInBounds_toArray, List.set_cons_zero, List.set_cons_succ]
  obtain ⟨g9, k0, k1, k2, k3, k4, k5⟩ := h6
  have G9 := Lib.hid g9
  replace f0 := (g9.frozen (o := 0) (cell_lt z0)).trans f0
  replace f1 := (g9.frozen (o := 1) (cell_lt z1)).trans f1
  replace f2 := (g9.frozen (o := 0) (cell_lt z2)).trans f2
  replace f3 := (g9.frozen (o := 1) (cell_lt z3)).trans f3
  replace f4 := (g9.frozen (o := 0) (cell_lt z4)).trans f4
  replace f5 := (g9.frozen (o := 1) (cell_lt z5)).trans f5
  clear g9
  refine late_go (by kernel_rfl) ?_
  refine any_one (i := 6) (o := { dst := none, op := Go.Op.store 67 (Go.Operand.tmp 3) (Go.Operand.tmp 15), type := 0, pos := "law.go:34", after := #[{ on := 1, ground := Go.Ground.data }, { on := 5, ground := Go.Ground.chain }, { on := 0, ground := Go.Ground.phase }, { on := 1, ground := Go.Ground.phase }, { on := 2, ground := Go.Ground.textOnly Go.Departure.lateStores }, { on := 3, ground := Go.Ground.textOnly Go.Departure.lateStoresUnsure }, { on := 4, ground := Go.Ground.textOnly Go.Departure.lateStores }, { on := 5, ground := Go.Ground.textOnly Go.Departure.lateStoresUnsure }], guard := none }) (by kernel_rfl) rfl (fun K hK => ?_)
  go_simp
  refine hK.out _ _ ?_
  clear hK K
  try simp only [Act.put, List.setIfInBounds_toArray, List.set_cons_zero, List.set_cons_succ]
  refine any_one (i := 7) (o := { dst := none, op := Go.Op.store 67 (Go.Operand.tmp 4) (Go.Operand.tmp 17), type := 0, pos := "law.go:34", after := #[{ on := 3, ground := Go.Ground.data }, { on := 6, ground := Go.Ground.chain }, { on := 0, ground := Go.Ground.phase }, { on := 1, ground := Go.Ground.phase }, { on := 2, ground := Go.Ground.phase }, { on := 3, ground := Go.Ground.phase }, { on := 4, ground := Go.Ground.textOnly Go.Departure.lateStores }, { on := 5, ground := Go.Ground.textOnly Go.Departure.lateStoresUnsure }, { on := 6, ground := Go.Ground.phase }], guard := none }) (by kernel_rfl) rfl (fun K hK => ?_)
  go_simp
  refine hK.out _ _ ?_
  clear hK K
  try simp only [Act.put, List.setIfInBounds_toArray, List.set_cons_zero, List.set_cons_succ]
  refine any_one (i := 8) (o := { dst := none, op := Go.Op.store 67 (Go.Operand.tmp 5) (Go.Operand.tmp 19), type := 0, pos := "law.go:34", after := #[{ on := 5, ground := Go.Ground.data }, { on := 7, ground := Go.Ground.chain }, { on := 0, ground := Go.Ground.phase }, { on := 1, ground := Go.Ground.phase }, { on := 2, ground := Go.Ground.phase }, { on := 3, ground := Go.Ground.phase }, { on := 4, ground := Go.Ground.phase }, { on := 5, ground := Go.Ground.phase }, { on := 6, ground := Go.Ground.phase }, { on := 7, ground := Go.Ground.phase }], guard := none }) (by kernel_rfl) rfl (fun K hK => ?_)
  go_simp
  refine hK.out _ _ ?_
  clear hK K
  try simp only [Act.put, List.setIfInBounds_toArray, List.set_cons_zero, List.set_cons_succ]
  refine any_done (by kernel_rfl) ?_
  obtain ⟨⟨q0, q1⟩, hoth, hfr, hgr⟩ := put2 k0 k1 (rfl : ((w9.setCell ⟨b, 0, none⟩ (.int .u64 (c0 : Nat))).setCell ⟨b, 1, none⟩ (.int .i64 (m0 : Nat))) = _)
  replace k2 := hoth _ _ _ (by omega) k2
  replace k3 := hoth _ _ _ (by omega) k3
  replace k4 := hoth _ _ _ (by omega) k4
  replace k5 := hoth _ _ _ (by omega) k5
  have G10 := Lib.hid (hgr _ (HG.out.trans G9.out) (by omega))
  clear hoth hfr hgr
  generalize ((w9.setCell ⟨b, 0, none⟩ (.int .u64 (c0 : Nat))).setCell ⟨b, 1, none⟩ (.int .i64 (m0 : Nat))) = w10 at *
  obtain ⟨⟨q2, q3⟩, hoth, hfr, hgr⟩ := put2 k2 k3 (rfl : ((w10.setCell ⟨b + 1, 0, none⟩ (.int .u64 (c1 : Nat))).setCell ⟨b + 1, 1, none⟩ (.int .i64 (m1 : Nat))) = _)
  replace q0 := hoth _ _ _ (by omega) q0
  replace q1 := hoth _ _ _ (by omega) q1
  replace k4 := hoth _ _ _ (by omega) k4
  replace k5 := hoth _ _ _ (by omega) k5
  have G11 := Lib.hid (hgr _ G10.out (by omega))
  clear hoth hfr hgr
  generalize ((w10.setCell ⟨b + 1, 0, none⟩ (.int .u64 (c1 : Nat))).setCell ⟨b + 1, 1, none⟩ (.int .i64 (m1 : Nat))) = w11 at *
  obtain ⟨⟨q4, q5⟩, hoth, hfr, hgr⟩ := put2 k4 k5 (rfl : ((w11.setCell ⟨b + 1 + 1, 0, none⟩ (.int .u64 (c2 : Nat))).setCell ⟨b + 1 + 1, 1, none⟩ (.int .i64 (m2 : Nat))) = _)
  replace q0 := hoth _ _ _ (by omega) q0
  replace q1 := hoth _ _ _ (by omega) q1
  replace q2 := hoth _ _ _ (by omega) q2
  replace q3 := hoth _ _ _ (by omega) q3
  have G12 := Lib.hid (hgr _ G11.out (by omega))
  clear hoth hfr hgr
  generalize ((w11.setCell ⟨b + 1 + 1, 0, none⟩ (.int .u64 (c2 : Nat))).setCell ⟨b + 1 + 1, 1, none⟩ (.int .i64 (m2 : Nat))) = w12 at *
  clear f0 f1 f2 f3 f4 f5 z0 z1 z2 z3 z4 z5 HS0 G9 G10 G11
  have hl0 := cell_lt q0
  have hl1 := cell_lt q2
  have hl2 := cell_lt q4
  go_wp2
  have HX4 : Hid (∀ w0 w9 : World, Gr w0 w9 → (fun w9 => Gr w12 w9 ∧ w9.cell? ⟨b, 0, none⟩ = some (.int .u64 (c0 : Nat)) ∧ w9.cell? ⟨b, 1, none⟩ = some (.int .i64 (m0 : Nat)) ∧ w9.cell? ⟨b + 1, 0, none⟩ = some (.int .u64 (c1 : Nat)) ∧ w9.cell? ⟨b + 1, 1, none⟩ = some (.int .i64 (m1 : Nat)) ∧ w9.cell? ⟨b + 1 + 1, 0, none⟩ = some (.int .u64 (c2 : Nat)) ∧ w9.cell? ⟨b + 1 + 1, 1, none⟩ = some (.int .i64 (m2 : Nat))) w0 → (fun w9 => Gr w12 w9 ∧ w9.cell? ⟨b, 0, none⟩ = some (.int .u64 (c0 : Nat)) ∧ w9.cell? ⟨b, 1, none⟩ = some (.int .i64 (m0 : Nat)) ∧ w9.cell? ⟨b + 1, 0, none⟩ = some (.int .u64 (c1 : Nat)) ∧ w9.cell? ⟨b + 1, 1, none⟩ = some (.int .i64 (m1 : Nat)) ∧ w9.cell? ⟨b + 1 + 1, 0, none⟩ = some (.int .u64 (c2 : Nat)) ∧ w9.cell? ⟨b + 1 + 1, 1, none⟩ = some (.int .i64 (m2 : Nat))) w9) := Lib.hid fun w0 w9 hg ⟨h, q0, q1, q2, q3, q4, q5⟩ => ⟨h.trans hg, hg.cell q0, hg.cell q1, hg.cell q2, hg.cell q3, hg.cell q4, hg.cell q5⟩
  have HS4 := And.intro (Gr.refl w12) (And.intro (q0) (And.intro (q1) (And.intro (q2) (And.intro (q3) (And.intro (q4) (q5))))))
  apply cutS3 (fun p q r w9 => (Gr w12 w9 ∧ w9.cell? ⟨b, 0, none⟩ = some (.int .u64 (c0 : Nat)) ∧ w9.cell? ⟨b, 1, none⟩ = some (.int .i64 (m0 : Nat)) ∧ w9.cell? ⟨b + 1, 0, none⟩ = some (.int .u64 (c1 : Nat)) ∧ w9.cell? ⟨b + 1, 1, none⟩ = some (.int .i64 (m1 : Nat)) ∧ w9.cell? ⟨b + 1 + 1, 0, none⟩ = some (.int .u64 (c2 : Nat)) ∧ w9.cell? ⟨b + 1 + 1, 1, none⟩ = some (.int .i64 (m2 : Nat))) ∧ w9.cell? ⟨p, 0, none⟩ = some (.int .u64 (c0 : Nat)) ∧ w9.cell? ⟨p, 1, none⟩ = some (.int .i64 (m0 : Nat)) ∧ w9.cell? ⟨q, 0, none⟩ = some (.int .u64 (c1 : Nat)) ∧ w9.cell? ⟨q, 1, none⟩ = some (.int .i64 (m1 : Nat)) ∧ w9.cell? ⟨r, 0, none⟩ = some (.int .u64 (c2 : Nat)) ∧ w9.cell? ⟨r, 1, none⟩ = some (.int .i64 (m2 : Nat)))
  case main =>
    intro HL
    refine wp_region_held_drew (S := (fun w9 => Gr w12 w9 ∧ w9.cell? ⟨b, 0, none⟩ = some (.int .u64 (c0 : Nat)) ∧ w9.cell? ⟨b, 1, none⟩ = some (.int .i64 (m0 : Nat)) ∧ w9.cell? ⟨b + 1, 0, none⟩ = some (.int .u64 (c1 : Nat)) ∧ w9.cell? ⟨b + 1, 1, none⟩ = some (.int .i64 (m1 : Nat)) ∧ w9.cell? ⟨b + 1 + 1, 0, none⟩ = some (.int .u64 (c2 : Nat)) ∧ w9.cell? ⟨b + 1 + 1, 1, none⟩ = some (.int .i64 (m2 : Nat)))) (by kernel_rfl) ?invd (fun h0 => ?_)
    case invd => exact HX4.out _ _ ((Gr.refl _).drew) HS4
    have HD := Lib.hid ((Gr.refl w12).drew)
    generalize w12.drew = wd at *
    refine wpAnyH_take (i := 0) (oi := { dst := some 20, op := Go.Op.load 67 (Go.Operand.tmp 3), type := 67, pos := "law.go:35", after := #[], guard := none }) (v := ?vd0) rfl (by kernel_rfl) (by kernel_rfl) (by kernel_rfl) (fun _ _ _ h => h) (Or.inl ⟨by rfl, ?rd0⟩) (by assumption) ?_
    case rd0 => (intro w hSw; (try dsimp only at hSw); (go_simp <;> with_reducible rfl))
    try simp only [Act.put, List.setIfInBounds_toArray, List.set_cons_zero, List.set_cons_succ]
    refine wpAnyH_take (i := 1) (oi := { dst := some 21, op := Go.Op.load 67 (Go.Operand.tmp 4), type := 67, pos := "law.go:35", after := #[{ on := 6, ground := Go.Ground.gcOnly Go.Departure.lateStores }], guard := none }) (v := ?vd1) rfl (by kernel_rfl) (by kernel_rfl) (by kernel_rfl) (fun _ _ _ h => h) (Or.inl ⟨by rfl, ?rd1⟩) (by assumption) ?_
    case rd1 => (intro w hSw; (try dsimp only at hSw); (go_simp <;> with_reducible rfl))
    try simp only [Act.put, List.setIfInBounds_toArray, List.set_cons_zero, List.set_cons_succ]
    refine wpAnyH_take (i := 2) (oi := { dst := some 22, op := Go.Op.load 67 (Go.Operand.tmp 5), type := 67, pos := "law.go:35", after := #[{ on := 7, ground := Go.Ground.gcOnly Go.Departure.lateStores }], guard := none }) (v := ?vd2) rfl (by kernel_rfl) (by kernel_rfl) (by kernel_rfl) (fun _ _ _ h => h) (Or.inl ⟨by rfl, ?rd2⟩) (by assumption) ?_
    case rd2 => (intro w hSw; (try dsimp only at hSw); (go_simp <;> with_reducible rfl))
    try simp only [Act.put, List.setIfInBounds_toArray, List.set_cons_zero, List.set_cons_succ]
    refine wpAnyH_ready (rs := [3, 4, 5]) (by kernel_rfl) (by simp) ?_
    refine AllReadyH.cons (o := { dst := some 7, op := Go.Op.alloc 69, type := 0, pos := "law.go:35", after := #[], guard := none }) rfl (fun K hK => ?_) (AllReadyH.cons (o := { dst := some 8, op := Go.Op.alloc 69, type := 0, pos := "law.go:35", after := #[], guard := none }) rfl (fun K hK => ?_) (AllReadyH.cons (o := { dst := some 9, op := Go.Op.alloc 69, type := 0, pos := "law.go:35", after := #[], guard := none }) rfl (fun K hK => ?_) AllReadyH.nil))
    · skip
      go_simp
      obtain ⟨p3, hp3⟩ : ∃ p, p = wd.heap.size := ⟨_, rfl⟩
      rw [← hp3]
      obtain ⟨wa1, hw⟩ : ∃ wn, wn = wd.alloc (.cells #[.int .u64 0, .int .i64 0] 69) := ⟨_, rfl⟩
      rw [← hw]
      have gx : Gr wd wa1 := by rw [hw]; exact (Gr.refl _).alloc _
      have hle3 : w12.heap.size ≤ p3 := by rw [hp3]; exact HD.out.size
      have a3_0 : wa1.cell? ⟨p3, 0, none⟩ = some (.int .u64 0) := by rw [hw, hp3]; exact new_cell rfl rfl
      have b3_0 : wa1.frozen? ⟨p3, 0, none⟩ = false := by rw [hw, hp3]; exact new_free rfl
      have a3_1 : wa1.cell? ⟨p3, 1, none⟩ = some (.int .i64 0) := by rw [hw, hp3]; exact new_cell rfl rfl
      have b3_1 : wa1.frozen? ⟨p3, 1, none⟩ = false := by rw [hw, hp3]; exact new_free rfl
      have GA1 := Lib.hid (HD.out.trans gx)
      clear hw hp3
      refine hK.out _ _ ?s1 (fun h1 => ?_)
      case s1 => exact HX4.out _ _ gx h0
      clear hK K gx h0
      try simp only [Act.put, List.setIfInBounds_toArray, List.set_cons_zero, List.set_cons_succ]
      refine wpAnyH_ready (rs := [4, 5]) (by kernel_rfl) (by simp) ?_
      refine AllReadyH.cons (o := { dst := some 8, op := Go.Op.alloc 69, type := 0, pos := "law.go:35", after := #[], guard := none }) rfl (fun K hK => ?_) (AllReadyH.cons (o := { dst := some 9, op := Go.Op.alloc 69, type := 0, pos := "law.go:35", after := #[], guard := none }) rfl (fun K hK => ?_) AllReadyH.nil)
      · skip
        go_simp
        obtain ⟨p4, hp4⟩ : ∃ p, p = wa1.heap.size := ⟨_, rfl⟩
        rw [← hp4]
        obtain ⟨wa2, hw⟩ : ∃ wn, wn = wa1.alloc (.cells #[.int .u64 0, .int .i64 0] 69) := ⟨_, rfl⟩
        rw [← hw]
        have gx : Gr wa1 wa2 := by rw [hw]; exact (Gr.refl _).alloc _
        have hle4 : w12.heap.size ≤ p4 := by rw [hp4]; exact GA1.out.size
        have n3_4 : p3 ≠ p4 := by have h7 := cell_lt a3_0; omega
        replace b3_0 := (gx.frozen (o := 0) (cell_lt a3_0)).trans b3_0
        replace b3_1 := (gx.frozen (o := 1) (cell_lt a3_1)).trans b3_1
        replace a3_0 := gx.cell a3_0
        replace a3_1 := gx.cell a3_1
        have a4_0 : wa2.cell? ⟨p4, 0, none⟩ = some (.int .u64 0) := by rw [hw, hp4]; exact new_cell rfl rfl
        have b4_0 : wa2.frozen? ⟨p4, 0, none⟩ = false := by rw [hw, hp4]; exact new_free rfl
        have a4_1 : wa2.cell? ⟨p4, 1, none⟩ = some (.int .i64 0) := by rw [hw, hp4]; exact new_cell rfl rfl
        have b4_1 : wa2.frozen? ⟨p4, 1, none⟩ = false := by rw [hw, hp4]; exact new_free rfl
        have GA2 := Lib.hid (GA1.out.trans gx)
        clear hw hp4
        refine hK.out _ _ ?s2 (fun h2 => ?_)
        case s2 => exact HX4.out _ _ gx h1
        clear hK K gx h1
        try simp only [Act.put, List.setIfInBounds_toArray, List.set_cons_zero, List.set_cons_succ]
        refine wpAnyH_ready (rs := [5]) (by kernel_rfl) (by simp) ?_
        refine AllReadyH.cons (o := { dst := some 9, op := Go.Op.alloc 69, type := 0, pos := "law.go:35", after := #[], guard := none }) rfl (fun K hK => ?_) AllReadyH.nil
        go_simp
        obtain ⟨p5, hp5⟩ : ∃ p, p = wa2.heap.size := ⟨_, rfl⟩
        rw [← hp5]
        obtain ⟨wa3, hw⟩ : ∃ wn, wn = wa2.alloc (.cells #[.int .u64 0, .int .i64 0] 69) := ⟨_, rfl⟩
        rw [← hw]
        have gx : Gr wa2 wa3 := by rw [hw]; exact (Gr.refl _).alloc _
        have hle5 : w12.heap.size ≤ p5 := by rw [hp5]; exact GA2.out.size
        have n3_5 : p3 ≠ p5 := by have h7 := cell_lt a3_0; omega
        have n4_5 : p4 ≠ p5 := by have h7 := cell_lt a4_0; omega
        replace b3_0 := (gx.frozen (o := 0) (cell_lt a3_0)).trans b3_0
        replace b3_1 := (gx.frozen (o := 1) (cell_lt a3_1)).trans b3_1
        replace a3_0 := gx.cell a3_0
        replace a3_1 := gx.cell a3_1
        replace b4_0 := (gx.frozen (o := 0) (cell_lt a4_0)).trans b4_0
        replace b4_1 := (gx.frozen (o := 1) (cell_lt a4_1)).trans b4_1
        replace a4_0 := gx.cell a4_0
        replace a4_1 := gx.cell a4_1
        have a5_0 : wa3.cell? ⟨p5, 0, none⟩ = some (.int .u64 0) := by rw [hw, hp5]; exact new_cell rfl rfl
        have b5_0 : wa3.frozen? ⟨p5, 0, none⟩ = false := by rw [hw, hp5]; exact new_free rfl
        have a5_1 : wa3.cell? ⟨p5, 1, none⟩ = some (.int .i64 0) := by rw [hw, hp5]; exact new_cell rfl rfl
        have b5_1 : wa3.frozen? ⟨p5, 1, none⟩ = false := by rw [hw, hp5]; exact new_free rfl
        have GA3 := Lib.hid (GA2.out.trans gx)
        clear hw hp5
        refine hK.out _ _ ?s3 (fun h3 => ?_)
        case s3 => exact HX4.out _ _ gx h2
        clear hK K gx h2
        try simp only [Act.put, List.setIfInBounds_toArray, List.set_cons_zero, List.set_cons_succ]
        refine wpAnyH_ready (rs := [6]) (by kernel_rfl) (by simp) ?_
        refine AllReadyH.cons (o := { dst := none, op := Go.Op.store 69 (Go.Operand.tmp 7) (Go.Operand.tmp 20), type := 0, pos := "law.go:35", after := #[{ on := 3, ground := Go.Ground.data }, { on := 0, ground := Go.Ground.data }, { on := 0, ground := Go.Ground.phase }, { on := 1, ground := Go.Ground.textOnly Go.Departure.lateStores }, { on := 2, ground := Go.Ground.textOnly Go.Departure.lateStores }, { on := 3, ground := Go.Ground.phase }, { on := 4, ground := Go.Ground.phase }, { on := 5, ground := Go.Ground.phase }], guard := none }) rfl (fun K hK => ?_) AllReadyH.nil
        go_simp
        obtain ⟨⟨x3_0, x3_1⟩, hoth, hfr, hgr⟩ := put2 a3_0 a3_1 (rfl : ((wa3.setCell ⟨p3, 0, none⟩ (.int .u64 (c0 : Nat))).setCell ⟨p3, 1, none⟩ (.int .i64 (m0 : Nat))) = _)
        have hS := And.intro (hgr _ h3.1 hle3) (And.intro (hoth _ _ _ (by omega) h3.2.1) (And.intro (hoth _ _ _ (by omega) h3.2.2.1) (And.intro (hoth _ _ _ (by omega) h3.2.2.2.1) (And.intro (hoth _ _ _ (by omega) h3.2.2.2.2.1) (And.intro (hoth _ _ _ (by omega) h3.2.2.2.2.2.1) (hoth _ _ _ (by omega) h3.2.2.2.2.2.2))))))
        clear a3_0 a3_1
        replace a4_0 := hoth _ _ _ n3_4.symm a4_0
        replace a4_1 := hoth _ _ _ n3_4.symm a4_1
        rw [← hfr] at b4_0
        rw [← hfr] at b4_1
        replace a5_0 := hoth _ _ _ n3_5.symm a5_0
        replace a5_1 := hoth _ _ _ n3_5.symm a5_1
        rw [← hfr] at b5_0
        rw [← hfr] at b5_1
        generalize ((wa3.setCell ⟨p3, 0, none⟩ (.int .u64 (c0 : Nat))).setCell ⟨p3, 1, none⟩ (.int .i64 (m0 : Nat))) = wa4 at *
        clear hoth hfr hgr
        refine hK.out _ _ ?s4 (fun h4 => ?_)
        case s4 => exact hS
        clear hK K hS h3
        try simp only [Act.put, List.setIfInBounds_toArray, List.set_cons_zero, List.set_cons_succ]
        refine wpAnyH_ready (rs := [7]) (by kernel_rfl) (by simp) ?_
        refine AllReadyH.cons (o := { dst := none, op := Go.Op.store 69 (Go.Operand.tmp 8) (Go.Operand.tmp 21), type := 0, pos := "law.go:35", after := #[{ on := 4, ground := Go.Ground.data }, { on := 1, ground := Go.Ground.data }, { on := 6, ground := Go.Ground.chain }, { on := 0, ground := Go.Ground.phase }, { on := 1, ground := Go.Ground.phase }, { on := 2, ground := Go.Ground.textOnly Go.Departure.lateStores }, { on := 3, ground := Go.Ground.phase }, { on := 4, ground := Go.Ground.phase }, { on := 5, ground := Go.Ground.phase }, { on := 6, ground := Go.Ground.phase }], guard := none }) rfl (fun K hK => ?_) AllReadyH.nil
        go_simp
        obtain ⟨⟨x4_0, x4_1⟩, hoth, hfr, hgr⟩ := put2 a4_0 a4_1 (rfl : ((wa4.setCell ⟨p4, 0, none⟩ (.int .u64 (c1 : Nat))).setCell ⟨p4, 1, none⟩ (.int .i64 (m1 : Nat))) = _)
        have hS := And.intro (hgr _ h4.1 hle4) (And.intro (hoth _ _ _ (by omega) h4.2.1) (And.intro (hoth _ _ _ (by omega) h4.2.2.1) (And.intro (hoth _ _ _ (by omega) h4.2.2.2.1) (And.intro (hoth _ _ _ (by omega) h4.2.2.2.2.1) (And.intro (hoth _ _ _ (by omega) h4.2.2.2.2.2.1) (hoth _ _ _ (by omega) h4.2.2.2.2.2.2))))))
        clear a4_0 a4_1
        replace x3_0 := hoth _ _ _ n3_4 x3_0
        replace x3_1 := hoth _ _ _ n3_4 x3_1
        replace a5_0 := hoth _ _ _ n4_5.symm a5_0
        replace a5_1 := hoth _ _ _ n4_5.symm a5_1
        rw [← hfr] at b5_0
        rw [← hfr] at b5_1
        generalize ((wa4.setCell ⟨p4, 0, none⟩ (.int .u64 (c1 : Nat))).setCell ⟨p4, 1, none⟩ (.int .i64 (m1 : Nat))) = wa5 at *
        clear hoth hfr hgr
        refine hK.out _ _ ?s5 (fun h5 => ?_)
        case s5 => exact hS
        clear hK K hS h4
        try simp only [Act.put, List.setIfInBounds_toArray, List.set_cons_zero, List.set_cons_succ]
        refine wpAnyH_ready (rs := [8]) (by kernel_rfl) (by simp) ?_
        refine AllReadyH.cons (o := { dst := none, op := Go.Op.store 69 (Go.Operand.tmp 9) (Go.Operand.tmp 22), type := 0, pos := "law.go:35", after := #[{ on := 5, ground := Go.Ground.data }, { on := 2, ground := Go.Ground.data }, { on := 7, ground := Go.Ground.chain }, { on := 0, ground := Go.Ground.phase }, { on := 1, ground := Go.Ground.phase }, { on := 2, ground := Go.Ground.phase }, { on := 3, ground := Go.Ground.phase }, { on := 4, ground := Go.Ground.phase }, { on := 5, ground := Go.Ground.phase }, { on := 6, ground := Go.Ground.phase }, { on := 7, ground := Go.Ground.phase }], guard := none }) rfl (fun K hK => ?_) AllReadyH.nil
        go_simp
        obtain ⟨⟨x5_0, x5_1⟩, hoth, hfr, hgr⟩ := put2 a5_0 a5_1 (rfl : ((wa5.setCell ⟨p5, 0, none⟩ (.int .u64 (c2 : Nat))).setCell ⟨p5, 1, none⟩ (.int .i64 (m2 : Nat))) = _)
        have hS := And.intro (hgr _ h5.1 hle5) (And.intro (hoth _ _ _ (by omega) h5.2.1) (And.intro (hoth _ _ _ (by omega) h5.2.2.1) (And.intro (hoth _ _ _ (by omega) h5.2.2.2.1) (And.intro (hoth _ _ _ (by omega) h5.2.2.2.2.1) (And.intro (hoth _ _ _ (by omega) h5.2.2.2.2.2.1) (hoth _ _ _ (by omega) h5.2.2.2.2.2.2))))))
        clear a5_0 a5_1
        replace x3_0 := hoth _ _ _ n3_5 x3_0
        replace x3_1 := hoth _ _ _ n3_5 x3_1
        replace x4_0 := hoth _ _ _ n4_5 x4_0
        replace x4_1 := hoth _ _ _ n4_5 x4_1
        generalize ((wa5.setCell ⟨p5, 0, none⟩ (.int .u64 (c2 : Nat))).setCell ⟨p5, 1, none⟩ (.int .i64 (m2 : Nat))) = wa6 at *
        clear hoth hfr hgr
        refine hK.out _ _ ?s6 (fun h6 => ?_)
        case s6 => exact hS
        clear hK K hS h5
        try simp only [Act.put, List.setIfInBounds_toArray, List.set_cons_zero, List.set_cons_succ]
        refine wpAnyH_done (by kernel_rfl) ?_ _
        exact HL p3 p4 p5 _ ⟨h6, x3_0, x3_1, x4_0, x4_1, x5_0, x5_1⟩
      · skip
        go_simp
        obtain ⟨p5, hp5⟩ : ∃ p, p = wa1.heap.size := ⟨_, rfl⟩
        rw [← hp5]
        obtain ⟨wa7, hw⟩ : ∃ wn, wn = wa1.alloc (.cells #[.int .u64 0, .int .i64 0] 69) := ⟨_, rfl⟩
        rw [← hw]
        have gx : Gr wa1 wa7 := by rw [hw]; exact (Gr.refl _).alloc _
        have hle5 : w12.heap.size ≤ p5 := by rw [hp5]; exact GA1.out.size
        have n3_5 : p3 ≠ p5 := by have h7 := cell_lt a3_0; omega
        replace b3_0 := (gx.frozen (o := 0) (cell_lt a3_0)).trans b3_0
        replace b3_1 := (gx.frozen (o := 1) (cell_lt a3_1)).trans b3_1
        replace a3_0 := gx.cell a3_0
        replace a3_1 := gx.cell a3_1
        have a5_0 : wa7.cell? ⟨p5, 0, none⟩ = some (.int .u64 0) := by rw [hw, hp5]; exact new_cell rfl rfl
        have b5_0 : wa7.frozen? ⟨p5, 0, none⟩ = false := by rw [hw, hp5]; exact new_free rfl
        have a5_1 : wa7.cell? ⟨p5, 1, none⟩ = some (.int .i64 0) := by rw [hw, hp5]; exact new_cell rfl rfl
        have b5_1 : wa7.frozen? ⟨p5, 1, none⟩ = false := by rw [hw, hp5]; exact new_free rfl
        have GA7 := Lib.hid (GA1.out.trans gx)
        clear hw hp5
        refine hK.out _ _ ?s7 (fun h7 => ?_)
        case s7 => exact HX4.out _ _ gx h1
        clear hK K gx h1
        try simp only [Act.put, List.setIfInBounds_toArray, List.set_cons_zero, List.set_cons_succ]
        refine wpAnyH_ready (rs := [4]) (by kernel_rfl) (by simp) ?_
        refine AllReadyH.cons (o := { dst := some 8, op := Go.Op.alloc 69, type := 0, pos := "law.go:35", after := #[], guard := none }) rfl (fun K hK => ?_) AllReadyH.nil
        go_simp
        obtain ⟨p4, hp4⟩ : ∃ p, p = wa7.heap.size := ⟨_, rfl⟩
        rw [← hp4]
        obtain ⟨wa8, hw⟩ : ∃ wn, wn = wa7.alloc (.cells #[.int .u64 0, .int .i64 0] 69) := ⟨_, rfl⟩
        rw [← hw]
        have gx : Gr wa7 wa8 := by rw [hw]; exact (Gr.refl _).alloc _
        have hle4 : w12.heap.size ≤ p4 := by rw [hp4]; exact GA7.out.size
        have n3_4 : p3 ≠ p4 := by have h7 := cell_lt a3_0; omega
        have n5_4 : p5 ≠ p4 := by have h7 := cell_lt a5_0; omega
        replace b3_0 := (gx.frozen (o := 0) (cell_lt a3_0)).trans b3_0
        replace b3_1 := (gx.frozen (o := 1) (cell_lt a3_1)).trans b3_1
        replace a3_0 := gx.cell a3_0
        replace a3_1 := gx.cell a3_1
        replace b5_0 := (gx.frozen (o := 0) (cell_lt a5_0)).trans b5_0
        replace b5_1 := (gx.frozen (o := 1) (cell_lt a5_1)).trans b5_1
        replace a5_0 := gx.cell a5_0
        replace a5_1 := gx.cell a5_1
        have a4_0 : wa8.cell? ⟨p4, 0, none⟩ = some (.int .u64 0) := by rw [hw, hp4]; exact new_cell rfl rfl
        have b4_0 : wa8.frozen? ⟨p4, 0, none⟩ = false := by rw [hw, hp4]; exact new_free rfl
        have a4_1 : wa8.cell? ⟨p4, 1, none⟩ = some (.int .i64 0) := by rw [hw, hp4]; exact new_cell rfl rfl
        have b4_1 : wa8.frozen? ⟨p4, 1, none⟩ = false := by rw [hw, hp4]; exact new_free rfl
        have GA8 := Lib.hid (GA7.out.trans gx)
        clear hw hp4
        refine hK.out _ _ ?s8 (fun h8 => ?_)
        case s8 => exact HX4.out _ _ gx h7
        clear hK K gx h7
        try simp only [Act.put, List.setIfInBounds_toArray, List.set_cons_zero, List.set_cons_succ]
        refine wpAnyH_ready (rs := [6]) (by kernel_rfl) (by simp) ?_
        refine AllReadyH.cons (o := { dst := none, op := Go.Op.store 69 (Go.Operand.tmp 7) (Go.Operand.tmp 20), type := 0, pos := "law.go:35", after := #[{ on := 3, ground := Go.Ground.data }, { on := 0, ground := Go.Ground.data }, { on := 0, ground := Go.Ground.phase }, { on := 1, ground := Go.Ground.textOnly Go.Departure.lateStores }, { on := 2, ground := Go.Ground.textOnly Go.Departure.lateStores }, { on := 3, ground := Go.Ground.phase }, { on := 4, ground := Go.Ground.phase }, { on := 5, ground := Go.Ground.phase }], guard := none }) rfl (fun K hK => ?_) AllReadyH.nil
        go_simp
        obtain ⟨⟨x3_0, x3_1⟩, hoth, hfr, hgr⟩ := put2 a3_0 a3_1 (rfl : ((wa8.setCell ⟨p3, 0, none⟩ (.int .u64 (c0 : Nat))).setCell ⟨p3, 1, none⟩ (.int .i64 (m0 : Nat))) = _)
        have hS := And.intro (hgr _ h8.1 hle3) (And.intro (hoth _ _ _ (by omega) h8.2.1) (And.intro (hoth _ _ _ (by omega) h8.2.2.1) (And.intro (hoth _ _ _ (by omega) h8.2.2.2.1) (And.intro (hoth _ _ _ (by omega) h8.2.2.2.2.1) (And.intro (hoth _ _ _ (by omega) h8.2.2.2.2.2.1) (hoth _ _ _ (by omega) h8.2.2.2.2.2.2))))))
        clear a3_0 a3_1
        replace a4_0 := hoth _ _ _ n3_4.symm a4_0
        replace a4_1 := hoth _ _ _ n3_4.symm a4_1
        rw [← hfr] at b4_0
        rw [← hfr] at b4_1
        replace a5_0 := hoth _ _ _ n3_5.symm a5_0
        replace a5_1 := hoth _ _ _ n3_5.symm a5_1
        rw [← hfr] at b5_0
        rw [← hfr] at b5_1
        generalize ((wa8.setCell ⟨p3, 0, none⟩ (.int .u64 (c0 : Nat))).setCell ⟨p3, 1, none⟩ (.int .i64 (m0 : Nat))) = wa9 at *
        clear hoth hfr hgr
        refine hK.out _ _ ?s9 (fun h9 => ?_)
        case s9 => exact hS
        clear hK K hS h8
        try simp only [Act.put, List.setIfInBounds_toArray, List.set_cons_zero, List.set_cons_succ]
        refine wpAnyH_ready (rs := [7]) (by kernel_rfl) (by simp) ?_
        refine AllReadyH.cons (o := { dst := none, op := Go.Op.store 69 (Go.Operand.tmp 8) (Go.Operand.tmp 21), type := 0, pos := "law.go:35", after := #[{ on := 4, ground := Go.Ground.data }, { on := 1, ground := Go.Ground.data }, { on := 6, ground := Go.Ground.chain }, { on := 0, ground := Go.Ground.phase }, { on := 1, ground := Go.Ground.phase }, { on := 2, ground := Go.Ground.textOnly Go.Departure.lateStores }, { on := 3, ground := Go.Ground.phase }, { on := 4, ground := Go.Ground.phase }, { on := 5, ground := Go.Ground.phase }, { on := 6, ground := Go.Ground.phase }], guard := none }) rfl (fun K hK => ?_) AllReadyH.nil
        go_simp
        obtain ⟨⟨x4_0, x4_1⟩, hoth, hfr, hgr⟩ := put2 a4_0 a4_1 (rfl : ((wa9.setCell ⟨p4, 0, none⟩ (.int .u64 (c1 : Nat))).setCell ⟨p4, 1, none⟩ (.int .i64 (m1 : Nat))) = _)
        have hS := And.intro (hgr _ h9.1 hle4) (And.intro (hoth _ _ _ (by omega) h9.2.1) (And.intro (hoth _ _ _ (by omega) h9.2.2.1) (And.intro (hoth _ _ _ (by omega) h9.2.2.2.1) (And.intro (hoth _ _ _ (by omega) h9.2.2.2.2.1) (And.intro (hoth _ _ _ (by omega) h9.2.2.2.2.2.1) (hoth _ _ _ (by omega) h9.2.2.2.2.2.2))))))
        clear a4_0 a4_1
        replace x3_0 := hoth _ _ _ n3_4 x3_0
        replace x3_1 := hoth _ _ _ n3_4 x3_1
        replace a5_0 := hoth _ _ _ n5_4 a5_0
        replace a5_1 := hoth _ _ _ n5_4 a5_1
        rw [← hfr] at b5_0
        rw [← hfr] at b5_1
        generalize ((wa9.setCell ⟨p4, 0, none⟩ (.int .u64 (c1 : Nat))).setCell ⟨p4, 1, none⟩ (.int .i64 (m1 : Nat))) = wa10 at *
        clear hoth hfr hgr
        refine hK.out _ _ ?s10 (fun h10 => ?_)
        case s10 => exact hS
        clear hK K hS h9
        try simp only [Act.put, List.setIfInBounds_toArray, List.set_cons_zero, List.set_cons_succ]
        refine wpAnyH_ready (rs := [8]) (by kernel_rfl) (by simp) ?_
        refine AllReadyH.cons (o := { dst := none, op := Go.Op.store 69 (Go.Operand.tmp 9) (Go.Operand.tmp 22), type := 0, pos := "law.go:35", after := #[{ on := 5, ground := Go.Ground.data }, { on := 2, ground := Go.Ground.data }, { on := 7, ground := Go.Ground.chain }, { on := 0, ground := Go.Ground.phase }, { on := 1, ground := Go.Ground.phase }, { on := 2, ground := Go.Ground.phase }, { on := 3, ground := Go.Ground.phase }, { on := 4, ground := Go.Ground.phase }, { on := 5, ground := Go.Ground.phase }, { on := 6, ground := Go.Ground.phase }, { on := 7, ground := Go.Ground.phase }], guard := none }) rfl (fun K hK => ?_) AllReadyH.nil
        go_simp
        obtain ⟨⟨x5_0, x5_1⟩, hoth, hfr, hgr⟩ := put2 a5_0 a5_1 (rfl : ((wa10.setCell ⟨p5, 0, none⟩ (.int .u64 (c2 : Nat))).setCell ⟨p5, 1, none⟩ (.int .i64 (m2 : Nat))) = _)
        have hS := And.intro (hgr _ h10.1 hle5) (And.intro (hoth _ _ _ (by omega) h10.2.1) (And.intro (hoth _ _ _ (by omega) h10.2.2.1) (And.intro (hoth _ _ _ (by omega) h10.2.2.2.1) (And.intro (hoth _ _ _ (by omega) h10.2.2.2.2.1) (And.intro (hoth _ _ _ (by omega) h10.2.2.2.2.2.1) (hoth _ _ _ (by omega) h10.2.2.2.2.2.2))))))
        clear a5_0 a5_1
        replace x3_0 := hoth _ _ _ n3_5 x3_0
        replace x3_1 := hoth _ _ _ n3_5 x3_1
        replace x4_0 := hoth _ _ _ n5_4.symm x4_0
        replace x4_1 := hoth _ _ _ n5_4.symm x4_1
        generalize ((wa10.setCell ⟨p5, 0, none⟩ (.int .u64 (c2 : Nat))).setCell ⟨p5, 1, none⟩ (.int .i64 (m2 : Nat))) = wa11 at *
        clear hoth hfr hgr
        refine hK.out _ _ ?s11 (fun h11 => ?_)
        case s11 => exact hS
        clear hK K hS h10
        try simp only [Act.put, List.setIfInBounds_toArray, List.set_cons_zero, List.set_cons_succ]
        refine wpAnyH_done (by kernel_rfl) ?_ _
        exact HL p3 p4 p5 _ ⟨h11, x3_0, x3_1, x4_0, x4_1, x5_0, x5_1⟩
    · skip
      go_simp
      obtain ⟨p4, hp4⟩ : ∃ p, p = wd.heap.size := ⟨_, rfl⟩
      rw [← hp4]
      obtain ⟨wa12, hw⟩ : ∃ wn, wn = wd.alloc (.cells #[.int .u64 0, .int .i64 0] 69) := ⟨_, rfl⟩
      rw [← hw]
      have gx : Gr wd wa12 := by rw [hw]; exact (Gr.refl _).alloc _
      have hle4 : w12.heap.size ≤ p4 := by rw [hp4]; exact HD.out.size
      have a4_0 : wa12.cell? ⟨p4, 0, none⟩ = some (.int .u64 0) := by rw [hw, hp4]; exact new_cell rfl rfl
      have b4_0 : wa12.frozen? ⟨p4, 0, none⟩ = false := by rw [hw, hp4]; exact new_free rfl
      have a4_1 : wa12.cell? ⟨p4, 1, none⟩ = some (.int .i64 0) := by rw [hw, hp4]; exact new_cell rfl rfl
      have b4_1 : wa12.frozen? ⟨p4, 1, none⟩ = false := by rw [hw, hp4]; exact new_free rfl
      have GA12 := Lib.hid (HD.out.trans gx)
      clear hw hp4
      refine hK.out _ _ ?s12 (fun h12 => ?_)
      case s12 => exact HX4.out _ _ gx h0
      clear hK K gx h0
      try simp only [Act.put, List.setIfInBounds_toArray, List.set_cons_zero, List.set_cons_succ]
      refine wpAnyH_ready (rs := [3, 5]) (by kernel_rfl) (by simp) ?_
      refine AllReadyH.cons (o := { dst := some 7, op := Go.Op.alloc 69, type := 0, pos := "law.go:35", after := #[], guard := none }) rfl (fun K hK => ?_) (AllReadyH.cons (o := { dst := some 9, op := Go.Op.alloc 69, type := 0, pos := "law.go:35", after := #[], guard := none }) rfl (fun K hK => ?_) AllReadyH.nil)
      · skip
        go_simp
        obtain ⟨p3, hp3⟩ : ∃ p, p = wa12.heap.size := ⟨_, rfl⟩
        rw [← hp3]
        obtain ⟨wa13, hw⟩ : ∃ wn, wn = wa12.alloc (.cells #[.int .u64 0, .int .i64 0] 69) := ⟨_, rfl⟩
        rw [← hw]
        have gx : Gr wa12 wa13 := by rw [hw]; exact (Gr.refl _).alloc _
        have hle3 : w12.heap.size ≤ p3 := by rw [hp3]; exact GA12.out.size
        have n4_3 : p4 ≠ p3 := by have h7 := cell_lt a4_0; omega
        replace b4_0 := (gx.frozen (o := 0) (cell_lt a4_0)).trans b4_0
        replace b4_1 := (gx.frozen (o := 1) (cell_lt a4_1)).trans b4_1
        replace a4_0 := gx.cell a4_0
        replace a4_1 := gx.cell a4_1
        have a3_0 : wa13.cell? ⟨p3, 0, none⟩ = some (.int .u64 0) := by rw [hw, hp3]; exact new_cell rfl rfl
        have b3_0 : wa13.frozen? ⟨p3, 0, none⟩ = false := by rw [hw, hp3]; exact new_free rfl
        have a3_1 : wa13.cell? ⟨p3, 1, none⟩ = some (.int .i64 0) := by rw [hw, hp3]; exact new_cell rfl rfl
        have b3_1 : wa13.frozen? ⟨p3, 1, none⟩ = false := by rw [hw, hp3]; exact new_free rfl
        have GA13 := Lib.hid (GA12.out.trans gx)
        clear hw hp3
        refine hK.out _ _ ?s13 (fun h13 => ?_)
        case s13 => exact HX4.out _ _ gx h12
        clear hK K gx h12
        try simp only [Act.put, List.setIfInBounds_toArray, List.set_cons_zero, List.set_cons_succ]
        refine wpAnyH_ready (rs := [5]) (by kernel_rfl) (by simp) ?_
        refine AllReadyH.cons (o := { dst := some 9, op := Go.Op.alloc 69, type := 0, pos := "law.go:35", after := #[], guard := none }) rfl (fun K hK => ?_) AllReadyH.nil
        go_simp
        obtain ⟨p5, hp5⟩ : ∃ p, p = wa13.heap.size := ⟨_, rfl⟩
        rw [← hp5]
        obtain ⟨wa14, hw⟩ : ∃ wn, wn = wa13.alloc (.cells #[.int .u64 0, .int .i64 0] 69) := ⟨_, rfl⟩
        rw [← hw]
        have gx : Gr wa13 wa14 := by rw [hw]; exact (Gr.refl _).alloc _
        have hle5 : w12.heap.size ≤ p5 := by rw [hp5]; exact GA13.out.size
        have n4_5 : p4 ≠ p5 := by have h7 := cell_lt a4_0; omega
        have n3_5 : p3 ≠ p5 := by have h7 := cell_lt a3_0; omega
        replace b4_0 := (gx.frozen (o := 0) (cell_lt a4_0)).trans b4_0
        replace b4_1 := (gx.frozen (o := 1) (cell_lt a4_1)).trans b4_1
        replace a4_0 := gx.cell a4_0
        replace a4_1 := gx.cell a4_1
        replace b3_0 := (gx.frozen (o := 0) (cell_lt a3_0)).trans b3_0
        replace b3_1 := (gx.frozen (o := 1) (cell_lt a3_1)).trans b3_1
        replace a3_0 := gx.cell a3_0
        replace a3_1 := gx.cell a3_1
        have a5_0 : wa14.cell? ⟨p5, 0, none⟩ = some (.int .u64 0) := by rw [hw, hp5]; exact new_cell rfl rfl
        have b5_0 : wa14.frozen? ⟨p5, 0, none⟩ = false := by rw [hw, hp5]; exact new_free rfl
        have a5_1 : wa14.cell? ⟨p5, 1, none⟩ = some (.int .i64 0) := by rw [hw, hp5]; exact new_cell rfl rfl
        have b5_1 : wa14.frozen? ⟨p5, 1, none⟩ = false := by rw [hw, hp5]; exact new_free rfl
        have GA14 := Lib.hid (GA13.out.trans gx)
        clear hw hp5
        refine hK.out _ _ ?s14 (fun h14 => ?_)
        case s14 => exact HX4.out _ _ gx h13
        clear hK K gx h13
        try simp only [Act.put, List.setIfInBounds_toArray, List.set_cons_zero, List.set_cons_succ]
        refine wpAnyH_ready (rs := [6]) (by kernel_rfl) (by simp) ?_
        refine AllReadyH.cons (o := { dst := none, op := Go.Op.store 69 (Go.Operand.tmp 7) (Go.Operand.tmp 20), type := 0, pos := "law.go:35", after := #[{ on := 3, ground := Go.Ground.data }, { on := 0, ground := Go.Ground.data }, { on := 0, ground := Go.Ground.phase }, { on := 1, ground := Go.Ground.textOnly Go.Departure.lateStores }, { on := 2, ground := Go.Ground.textOnly Go.Departure.lateStores }, { on := 3, ground := Go.Ground.phase }, { on := 4, ground := Go.Ground.phase }, { on := 5, ground := Go.Ground.phase }], guard := none }) rfl (fun K hK => ?_) AllReadyH.nil
        go_simp
        obtain ⟨⟨x3_0, x3_1⟩, hoth, hfr, hgr⟩ := put2 a3_0 a3_1 (rfl : ((wa14.setCell ⟨p3, 0, none⟩ (.int .u64 (c0 : Nat))).setCell ⟨p3, 1, none⟩ (.int .i64 (m0 : Nat))) = _)
        have hS := And.intro (hgr _ h14.1 hle3) (And.intro (hoth _ _ _ (by omega) h14.2.1) (And.intro (hoth _ _ _ (by omega) h14.2.2.1) (And.intro (hoth _ _ _ (by omega) h14.2.2.2.1) (And.intro (hoth _ _ _ (by omega) h14.2.2.2.2.1) (And.intro (hoth _ _ _ (by omega) h14.2.2.2.2.2.1) (hoth _ _ _ (by omega) h14.2.2.2.2.2.2))))))
        clear a3_0 a3_1
        replace a4_0 := hoth _ _ _ n4_3 a4_0
        replace a4_1 := hoth _ _ _ n4_3 a4_1
        rw [← hfr] at b4_0
        rw [← hfr] at b4_1
        replace a5_0 := hoth _ _ _ n3_5.symm a5_0
        replace a5_1 := hoth _ _ _ n3_5.symm a5_1
        rw [← hfr] at b5_0
        rw [← hfr] at b5_1
        generalize ((wa14.setCell ⟨p3, 0, none⟩ (.int .u64 (c0 : Nat))).setCell ⟨p3, 1, none⟩ (.int .i64 (m0 : Nat))) = wa15 at *
        clear hoth hfr hgr
        refine hK.out _ _ ?s15 (fun h15 => ?_)
        case s15 => exact hS
        clear hK K hS h14
        try simp only [Act.put, List.setIfInBounds_toArray, List.set_cons_zero, List.set_cons_succ]
        refine wpAnyH_ready (rs := [7]) (by kernel_rfl) (by simp) ?_
        refine AllReadyH.cons (o := { dst := none, op := Go.Op.store 69 (Go.Operand.tmp 8) (Go.Operand.tmp 21), type := 0, pos := "law.go:35", after := #[{ on := 4, ground := Go.Ground.data }, { on := 1, ground := Go.Ground.data }, { on := 6, ground := Go.Ground.chain }, { on := 0, ground := Go.Ground.phase }, { on := 1, ground := Go.Ground.phase }, { on := 2, ground := Go.Ground.textOnly Go.Departure.lateStores }, { on := 3, ground := Go.Ground.phase }, { on := 4, ground := Go.Ground.phase }, { on := 5, ground := Go.Ground.phase }, { on := 6, ground := Go.Ground.phase }], guard := none }) rfl (fun K hK => ?_) AllReadyH.nil
        go_simp
        obtain ⟨⟨x4_0, x4_1⟩, hoth, hfr, hgr⟩ := put2 a4_0 a4_1 (rfl : ((wa15.setCell ⟨p4, 0, none⟩ (.int .u64 (c1 : Nat))).setCell ⟨p4, 1, none⟩ (.int .i64 (m1 : Nat))) = _)
        have hS := And.intro (hgr _ h15.1 hle4) (And.intro (hoth _ _ _ (by omega) h15.2.1) (And.intro (hoth _ _ _ (by omega) h15.2.2.1) (And.intro (hoth _ _ _ (by omega) h15.2.2.2.1) (And.intro (hoth _ _ _ (by omega) h15.2.2.2.2.1) (And.intro (hoth _ _ _ (by omega) h15.2.2.2.2.2.1) (hoth _ _ _ (by omega) h15.2.2.2.2.2.2))))))
        clear a4_0 a4_1
        replace x3_0 := hoth _ _ _ n4_3.symm x3_0
        replace x3_1 := hoth _ _ _ n4_3.symm x3_1
        replace a5_0 := hoth _ _ _ n4_5.symm a5_0
        replace a5_1 := hoth _ _ _ n4_5.symm a5_1
        rw [← hfr] at b5_0
        rw [← hfr] at b5_1
        generalize ((wa15.setCell ⟨p4, 0, none⟩ (.int .u64 (c1 : Nat))).setCell ⟨p4, 1, none⟩ (.int .i64 (m1 : Nat))) = wa16 at *
        clear hoth hfr hgr
        refine hK.out _ _ ?s16 (fun h16 => ?_)
        case s16 => exact hS
        clear hK K hS h15
        try simp only [Act.put, List.setIfInBounds_toArray, List.set_cons_zero, List.set_cons_succ]
        refine wpAnyH_ready (rs := [8]) (by kernel_rfl) (by simp) ?_
        refine AllReadyH.cons (o := { dst := none, op := Go.Op.store 69 (Go.Operand.tmp 9) (Go.Operand.tmp 22), type := 0, pos := "law.go:35", after := #[{ on := 5, ground := Go.Ground.data }, { on := 2, ground := Go.Ground.data }, { on := 7, ground := Go.Ground.chain }, { on := 0, ground := Go.Ground.phase }, { on := 1, ground := Go.Ground.phase }, { on := 2, ground := Go.Ground.phase }, { on := 3, ground := Go.Ground.phase }, { on := 4, ground := Go.Ground.phase }, { on := 5, ground := Go.Ground.phase }, { on := 6, ground := Go.Ground.phase }, { on := 7, ground := Go.Ground.phase }], guard := none }) rfl (fun K hK => ?_) AllReadyH.nil
        go_simp
        obtain ⟨⟨x5_0, x5_1⟩, hoth, hfr, hgr⟩ := put2 a5_0 a5_1 (rfl : ((wa16.setCell ⟨p5, 0, none⟩ (.int .u64 (c2 : Nat))).setCell ⟨p5, 1, none⟩ (.int .i64 (m2 : Nat))) = _)
        have hS := And.intro (hgr _ h16.1 hle5) (And.intro (hoth _ _ _ (by omega) h16.2.1) (And.intro (hoth _ _ _ (by omega) h16.2.2.1) (And.intro (hoth _ _ _ (by omega) h16.2.2.2.1) (And.intro (hoth _ _ _ (by omega) h16.2.2.2.2.1) (And.intro (hoth _ _ _ (by omega) h16.2.2.2.2.2.1) (hoth _ _ _ (by omega) h16.2.2.2.2.2.2))))))
        clear a5_0 a5_1
        replace x3_0 := hoth _ _ _ n3_5 x3_0
        replace x3_1 := hoth _ _ _ n3_5 x3_1
        replace x4_0 := hoth _ _ _ n4_5 x4_0
        replace x4_1 := hoth _ _ _ n4_5 x4_1
        generalize ((wa16.setCell ⟨p5, 0, none⟩ (.int .u64 (c2 : Nat))).setCell ⟨p5, 1, none⟩ (.int .i64 (m2 : Nat))) = wa17 at *
        clear hoth hfr hgr
        refine hK.out _ _ ?s17 (fun h17 => ?_)
        case s17 => exact hS
        clear hK K hS h16
        try simp only [Act.put, List.setIfInBounds_toArray, List.set_cons_zero, List.set_cons_succ]
        refine wpAnyH_done (by kernel_rfl) ?_ _
        exact HL p3 p4 p5 _ ⟨h17, x3_0, x3_1, x4_0, x4_1, x5_0, x5_1⟩
      · skip
        go_simp
        obtain ⟨p5, hp5⟩ : ∃ p, p = wa12.heap.size := ⟨_, rfl⟩
        rw [← hp5]
        obtain ⟨wa18, hw⟩ : ∃ wn, wn = wa12.alloc (.cells #[.int .u64 0, .int .i64 0] 69) := ⟨_, rfl⟩
        rw [← hw]
        have gx : Gr wa12 wa18 := by rw [hw]; exact (Gr.refl _).alloc _
        have hle5 : w12.heap.size ≤ p5 := by rw [hp5]; exact GA12.out.size
        have n4_5 : p4 ≠ p5 := by have h7 := cell_lt a4_0; omega
        replace b4_0 := (gx.frozen (o := 0) (cell_lt a4_0)).trans b4_0
        replace b4_1 := (gx.frozen (o := 1) (cell_lt a4_1)).trans b4_1
        replace a4_0 := gx.cell a4_0
        replace a4_1 := gx.cell a4_1
        have a5_0 : wa18.cell? ⟨p5, 0, none⟩ = some (.int .u64 0) := by rw [hw, hp5]; exact new_cell rfl rfl
        have b5_0 : wa18.frozen? ⟨p5, 0, none⟩ = false := by rw [hw, hp5]; exact new_free rfl
        have a5_1 : wa18.cell? ⟨p5, 1, none⟩ = some (.int .i64 0) := by rw [hw, hp5]; exact new_cell rfl rfl
        have b5_1 : wa18.frozen? ⟨p5, 1, none⟩ = false := by rw [hw, hp5]; exact new_free rfl
        have GA18 := Lib.hid (GA12.out.trans gx)
        clear hw hp5
        refine hK.out _ _ ?s18 (fun h18 => ?_)
        case s18 => exact HX4.out _ _ gx h12
        clear hK K gx h12
        try simp only [Act.put, List.setIfInBounds_toArray, List.set_cons_zero, List.set_cons_succ]
        refine wpAnyH_ready (rs := [3]) (by kernel_rfl) (by simp) ?_
        refine AllReadyH.cons (o := { dst := some 7, op := Go.Op.alloc 69, type := 0, pos := "law.go:35", after := #[], guard := none }) rfl (fun K hK => ?_) AllReadyH.nil
        go_simp
        obtain ⟨p3, hp3⟩ : ∃ p, p = wa18.heap.size := ⟨_, rfl⟩
        rw [← hp3]
        obtain ⟨wa19, hw⟩ : ∃ wn, wn = wa18.alloc (.cells #[.int .u64 0, .int .i64 0] 69) := ⟨_, rfl⟩
        rw [← hw]
        have gx : Gr wa18 wa19 := by rw [hw]; exact (Gr.refl _).alloc _
        have hle3 : w12.heap.size ≤ p3 := by rw [hp3]; exact GA18.out.size
        have n4_3 : p4 ≠ p3 := by have h7 := cell_lt a4_0; omega
        have n5_3 : p5 ≠ p3 := by have h7 := cell_lt a5_0; omega
        replace b4_0 := (gx.frozen (o := 0) (cell_lt a4_0)).trans b4_0
        replace b4_1 := (gx.frozen (o := 1) (cell_lt a4_1)).trans b4_1
        replace a4_0 := gx.cell a4_0
        replace a4_1 := gx.cell a4_1
        replace b5_0 := (gx.frozen (o := 0) (cell_lt a5_0)).trans b5_0
        replace b5_1 := (gx.frozen (o := 1) (cell_lt a5_1)).trans b5_1
        replace a5_0 := gx.cell a5_0
        replace a5_1 := gx.cell a5_1
        have a3_0 : wa19.cell? ⟨p3, 0, none⟩ = some (.int .u64 0) := by rw [hw, hp3]; exact new_cell rfl rfl
        have b3_0 : wa19.frozen? ⟨p3, 0, none⟩ = false := by rw [hw, hp3]; exact new_free rfl
        have a3_1 : wa19.cell? ⟨p3, 1, none⟩ = some (.int .i64 0) := by rw [hw, hp3]; exact new_cell rfl rfl
        have b3_1 : wa19.frozen? ⟨p3, 1, none⟩ = false := by rw [hw, hp3]; exact new_free rfl
        have GA19 := Lib.hid (GA18.out.trans gx)
        clear hw hp3
        refine hK.out _ _ ?s19 (fun h19 => ?_)
        case s19 => exact HX4.out _ _ gx h18
        clear hK K gx h18
        try simp only [Act.put, List.setIfInBounds_toArray, List.set_cons_zero, List.set_cons_succ]
        refine wpAnyH_ready (rs := [6]) (by kernel_rfl) (by simp) ?_
        refine AllReadyH.cons (o := { dst := none, op := Go.Op.store 69 (Go.Operand.tmp 7) (Go.Operand.tmp 20), type := 0, pos := "law.go:35", after := #[{ on := 3, ground := Go.Ground.data }, { on := 0, ground := Go.Ground.data }, { on := 0, ground := Go.Ground.phase }, { on := 1, ground := Go.Ground.textOnly Go.Departure.lateStores }, { on := 2, ground := Go.Ground.textOnly Go.Departure.lateStores }, { on := 3, ground := Go.Ground.phase }, { on := 4, ground := Go.Ground.phase }, { on := 5, ground := Go.Ground.phase }], guard := none }) rfl (fun K hK => ?_) AllReadyH.nil
        go_simp
        obtain ⟨⟨x3_0, x3_1⟩, hoth, hfr, hgr⟩ := put2 a3_0 a3_1 (rfl : ((wa19.setCell ⟨p3, 0, none⟩ (.int .u64 (c0 : Nat))).setCell ⟨p3, 1, none⟩ (.int .i64 (m0 : Nat))) = _)
        have hS := And.intro (hgr _ h19.1 hle3) (And.intro (hoth _ _ _ (by omega) h19.2.1) (And.intro (hoth _ _ _ (by omega) h19.2.2.1) (And.intro (hoth _ _ _ (by omega) h19.2.2.2.1) (And.intro (hoth _ _ _ (by omega) h19.2.2.2.2.1) (And.intro (hoth _ _ _ (by omega) h19.2.2.2.2.2.1) (hoth _ _ _ (by omega) h19.2.2.2.2.2.2))))))
        clear a3_0 a3_1
        replace a4_0 := hoth _ _ _ n4_3 a4_0
        replace a4_1 := hoth _ _ _ n4_3 a4_1
        rw [← hfr] at b4_0
        rw [← hfr] at b4_1
        replace a5_0 := hoth _ _ _ n5_3 a5_0
        replace a5_1 := hoth _ _ _ n5_3 a5_1
        rw [← hfr] at b5_0
        rw [← hfr] at b5_1
        generalize ((wa19.setCell ⟨p3, 0, none⟩ (.int .u64 (c0 : Nat))).setCell ⟨p3, 1, none⟩ (.int .i64 (m0 : Nat))) = wa20 at *
        clear hoth hfr hgr
        refine hK.out _ _ ?s20 (fun h20 => ?_)
        case s20 => exact hS
        clear hK K hS h19
        try simp only [Act.put, List.setIfInBounds_toArray, List.set_cons_zero, List.set_cons_succ]
        refine wpAnyH_ready (rs := [7]) (by kernel_rfl) (by simp) ?_
        refine AllReadyH.cons (o := { dst := none, op := Go.Op.store 69 (Go.Operand.tmp 8) (Go.Operand.tmp 21), type := 0, pos := "law.go:35", after := #[{ on := 4, ground := Go.Ground.data }, { on := 1, ground := Go.Ground.data }, { on := 6, ground := Go.Ground.chain }, { on := 0, ground := Go.Ground.phase }, { on := 1, ground := Go.Ground.phase }, { on := 2, ground := Go.Ground.textOnly Go.Departure.lateStores }, { on := 3, ground := Go.Ground.phase }, { on := 4, ground := Go.Ground.phase }, { on := 5, ground := Go.Ground.phase }, { on := 6, ground := Go.Ground.phase }], guard := none }) rfl (fun K hK => ?_) AllReadyH.nil
        go_simp
        obtain ⟨⟨x4_0, x4_1⟩, hoth, hfr, hgr⟩ := put2 a4_0 a4_1 (rfl : ((wa20.setCell ⟨p4, 0, none⟩ (.int .u64 (c1 : Nat))).setCell ⟨p4, 1, none⟩ (.int .i64 (m1 : Nat))) = _)
        have hS := And.intro (hgr _ h20.1 hle4) (And.intro (hoth _ _ _ (by omega) h20.2.1) (And.intro (hoth _ _ _ (by omega) h20.2.2.1) (And.intro (hoth _ _ _ (by omega) h20.2.2.2.1) (And.intro (hoth _ _ _ (by omega) h20.2.2.2.2.1) (And.intro (hoth _ _ _ (by omega) h20.2.2.2.2.2.1) (hoth _ _ _ (by omega) h20.2.2.2.2.2.2))))))
        clear a4_0 a4_1
        replace x3_0 := hoth _ _ _ n4_3.symm x3_0
        replace x3_1 := hoth _ _ _ n4_3.symm x3_1
        replace a5_0 := hoth _ _ _ n4_5.symm a5_0
        replace a5_1 := hoth _ _ _ n4_5.symm a5_1
        rw [← hfr] at b5_0
        rw [← hfr] at b5_1
        generalize ((wa20.setCell ⟨p4, 0, none⟩ (.int .u64 (c1 : Nat))).setCell ⟨p4, 1, none⟩ (.int .i64 (m1 : Nat))) = wa21 at *
        clear hoth hfr hgr
        refine hK.out _ _ ?s21 (fun h21 => ?_)
        case s21 => exact hS
        clear hK K hS h20
        try simp only [Act.put, List.setIfInBounds_toArray, List.set_cons_zero, List.set_cons_succ]
        refine wpAnyH_ready (rs := [8]) (by kernel_rfl) (by simp) ?_
        refine AllReadyH.cons (o := { dst := none, op := Go.Op.store 69 (Go.Operand.tmp 9) (Go.Operand.tmp 22), type := 0, pos := "law.go:35", after := #[{ on := 5, ground := Go.Ground.data }, { on := 2, ground := Go.Ground.data }, { on := 7, ground := Go.Ground.chain }, { on := 0, ground := Go.Ground.phase }, { on := 1, ground := Go.Ground.phase }, { on := 2, ground := Go.Ground.phase }, { on := 3, ground := Go.Ground.phase }, { on := 4, ground := Go.Ground.phase }, { on := 5, ground := Go.Ground.phase }, { on := 6, ground := Go.Ground.phase }, { on := 7, ground := Go.Ground.phase }], guard := none }) rfl (fun K hK => ?_) AllReadyH.nil
        go_simp
        obtain ⟨⟨x5_0, x5_1⟩, hoth, hfr, hgr⟩ := put2 a5_0 a5_1 (rfl : ((wa21.setCell ⟨p5, 0, none⟩ (.int .u64 (c2 : Nat))).setCell ⟨p5, 1, none⟩ (.int .i64 (m2 : Nat))) = _)
        have hS := And.intro (hgr _ h21.1 hle5) (And.intro (hoth _ _ _ (by omega) h21.2.1) (And.intro (hoth _ _ _ (by omega) h21.2.2.1) (And.intro (hoth _ _ _ (by omega) h21.2.2.2.1) (And.intro (hoth _ _ _ (by omega) h21.2.2.2.2.1) (And.intro (hoth _ _ _ (by omega) h21.2.2.2.2.2.1) (hoth _ _ _ (by omega) h21.2.2.2.2.2.2))))))
        clear a5_0 a5_1
        replace x3_0 := hoth _ _ _ n5_3.symm x3_0
        replace x3_1 := hoth _ _ _ n5_3.symm x3_1
        replace x4_0 := hoth _ _ _ n4_5 x4_0
        replace x4_1 := hoth _ _ _ n4_5 x4_1
        generalize ((wa21.setCell ⟨p5, 0, none⟩ (.int .u64 (c2 : Nat))).setCell ⟨p5, 1, none⟩ (.int .i64 (m2 : Nat))) = wa22 at *
        clear hoth hfr hgr
        refine hK.out _ _ ?s22 (fun h22 => ?_)
        case s22 => exact hS
        clear hK K hS h21
        try simp only [Act.put, List.setIfInBounds_toArray, List.set_cons_zero, List.set_cons_succ]
        refine wpAnyH_done (by kernel_rfl) ?_ _
        exact HL p3 p4 p5 _ ⟨h22, x3_0, x3_1, x4_0, x4_1, x5_0, x5_1⟩
    · skip
      go_simp
      obtain ⟨p5, hp5⟩ : ∃ p, p = wd.heap.size := ⟨_, rfl⟩
      rw [← hp5]
      obtain ⟨wa23, hw⟩ : ∃ wn, wn = wd.alloc (.cells #[.int .u64 0, .int .i64 0] 69) := ⟨_, rfl⟩
      rw [← hw]
      have gx : Gr wd wa23 := by rw [hw]; exact (Gr.refl _).alloc _
      have hle5 : w12.heap.size ≤ p5 := by rw [hp5]; exact HD.out.size
      have a5_0 : wa23.cell? ⟨p5, 0, none⟩ = some (.int .u64 0) := by rw [hw, hp5]; exact new_cell rfl rfl
      have b5_0 : wa23.frozen? ⟨p5, 0, none⟩ = false := by rw [hw, hp5]; exact new_free rfl
      have a5_1 : wa23.cell? ⟨p5, 1, none⟩ = some (.int .i64 0) := by rw [hw, hp5]; exact new_cell rfl rfl
      have b5_1 : wa23.frozen? ⟨p5, 1, none⟩ = false := by rw [hw, hp5]; exact new_free rfl
      have GA23 := Lib.hid (HD.out.trans gx)
      clear hw hp5
      refine hK.out _ _ ?s23 (fun h23 => ?_)
      case s23 => exact HX4.out _ _ gx h0
      clear hK K gx h0
      try simp only [Act.put, List.setIfInBounds_toArray, List.set_cons_zero, List.set_cons_succ]
      refine wpAnyH_ready (rs := [3, 4]) (by kernel_rfl) (by simp) ?_
      refine AllReadyH.cons (o := { dst := some 7, op := Go.Op.alloc 69, type := 0, pos := "law.go:35", after := #[], guard := none }) rfl (fun K hK => ?_) (AllReadyH.cons (o := { dst := some 8, op := Go.Op.alloc 69, type := 0, pos := "law.go:35", after := #[], guard := none }) rfl (fun K hK => ?_) AllReadyH.nil)
      · skip
        go_simp
        obtain ⟨p3, hp3⟩ : ∃ p, p = wa23.heap.size := ⟨_, rfl⟩
        rw [← hp3]
        obtain ⟨wa24, hw⟩ : ∃ wn, wn = wa23.alloc (.cells #[.int .u64 0, .int .i64 0] 69) := ⟨_, rfl⟩
        rw [← hw]
        have gx : Gr wa23 wa24 := by rw [hw]; exact (Gr.refl _).alloc _
        have hle3 : w12.heap.size ≤ p3 := by rw [hp3]; exact GA23.out.size
        have n5_3 : p5 ≠ p3 := by have h7 := cell_lt a5_0; omega
        replace b5_0 := (gx.frozen (o := 0) (cell_lt a5_0)).trans b5_0
        replace b5_1 := (gx.frozen (o := 1) (cell_lt a5_1)).trans b5_1
        replace a5_0 := gx.cell a5_0
        replace a5_1 := gx.cell a5_1
        have a3_0 : wa24.cell? ⟨p3, 0, none⟩ = some (.int .u64 0) := by rw [hw, hp3]; exact new_cell rfl rfl
        have b3_0 : wa24.frozen? ⟨p3, 0, none⟩ = false := by rw [hw, hp3]; exact new_free rfl
        have a3_1 : wa24.cell? ⟨p3, 1, none⟩ = some (.int .i64 0) := by rw [hw, hp3]; exact new_cell rfl rfl
        have b3_1 : wa24.frozen? ⟨p3, 1, none⟩ = false := by rw [hw, hp3]; exact new_free rfl
        have GA24 := Lib.hid (GA23.out.trans gx)
        clear hw hp3
        refine hK.out _ _ ?s24 (fun h24 => ?_)
        case s24 => exact HX4.out _ _ gx h23
        clear hK K gx h23
        try simp only [Act.put, List.setIfInBounds_toArray, List.set_cons_zero, List.set_cons_succ]
        refine wpAnyH_ready (rs := [4]) (by kernel_rfl) (by simp) ?_
        refine AllReadyH.cons (o := { dst := some 8, op := Go.Op.alloc 69, type := 0, pos := "law.go:35", after := #[], guard := none }) rfl (fun K hK => ?_) AllReadyH.nil
        go_simp
        obtain ⟨p4, hp4⟩ : ∃ p, p = wa24.heap.size := ⟨_, rfl⟩
        rw [← hp4]
        obtain ⟨wa25, hw⟩ : ∃ wn, wn = wa24.alloc (.cells #[.int .u64 0, .int .i64 0] 69) := ⟨_, rfl⟩
        rw [← hw]
        have gx : Gr wa24 wa25 := by rw [hw]; exact (Gr.refl _).alloc _
        have hle4 : w12.heap.size ≤ p4 := by rw [hp4]; exact GA24.out.size
        have n5_4 : p5 ≠ p4 := by have h7 := cell_lt a5_0; omega
        have n3_4 : p3 ≠ p4 := by have h7 := cell_lt a3_0; omega
        replace b5_0 := (gx.frozen (o := 0) (cell_lt a5_0)).trans b5_0
        replace b5_1 := (gx.frozen (o := 1) (cell_lt a5_1)).trans b5_1
        replace a5_0 := gx.cell a5_0
        replace a5_1 := gx.cell a5_1
        replace b3_0 := (gx.frozen (o := 0) (cell_lt a3_0)).trans b3_0
        replace b3_1 := (gx.frozen (o := 1) (cell_lt a3_1)).trans b3_1
        replace a3_0 := gx.cell a3_0
        replace a3_1 := gx.cell a3_1
        have a4_0 : wa25.cell? ⟨p4, 0, none⟩ = some (.int .u64 0) := by rw [hw, hp4]; exact new_cell rfl rfl
        have b4_0 : wa25.frozen? ⟨p4, 0, none⟩ = false := by rw [hw, hp4]; exact new_free rfl
        have a4_1 : wa25.cell? ⟨p4, 1, none⟩ = some (.int .i64 0) := by rw [hw, hp4]; exact new_cell rfl rfl
        have b4_1 : wa25.frozen? ⟨p4, 1, none⟩ = false := by rw [hw, hp4]; exact new_free rfl
        have GA25 := Lib.hid (GA24.out.trans gx)
        clear hw hp4
        refine hK.out _ _ ?s25 (fun h25 => ?_)
        case s25 => exact HX4.out _ _ gx h24
        clear hK K gx h24
        try simp only [Act.put, List.setIfInBounds_toArray, List.set_cons_zero, List.set_cons_succ]
        refine wpAnyH_ready (rs := [6]) (by kernel_rfl) (by simp) ?_
        refine AllReadyH.cons (o := { dst := none, op := Go.Op.store 69 (Go.Operand.tmp 7) (Go.Operand.tmp 20), type := 0, pos := "law.go:35", after := #[{ on := 3, ground := Go.Ground.data }, { on := 0, ground := Go.Ground.data }, { on := 0, ground := Go.Ground.phase }, { on := 1, ground := Go.Ground.textOnly Go.Departure.lateStores }, { on := 2, ground := Go.Ground.textOnly Go.Departure.lateStores }, { on := 3, ground := Go.Ground.phase }, { on := 4, ground := Go.Ground.phase }, { on := 5, ground := Go.Ground.phase }], guard := none }) rfl (fun K hK => ?_) AllReadyH.nil
        go_simp
        obtain ⟨⟨x3_0, x3_1⟩, hoth, hfr, hgr⟩ := put2 a3_0 a3_1 (rfl : ((wa25.setCell ⟨p3, 0, none⟩ (.int .u64 (c0 : Nat))).setCell ⟨p3, 1, none⟩ (.int .i64 (m0 : Nat))) = _)
        have hS := And.intro (hgr _ h25.1 hle3) (And.intro (hoth _ _ _ (by omega) h25.2.1) (And.intro (hoth _ _ _ (by omega) h25.2.2.1) (And.intro (hoth _ _ _ (by omega) h25.2.2.2.1) (And.intro (hoth _ _ _ (by omega) h25.2.2.2.2.1) (And.intro (hoth _ _ _ (by omega) h25.2.2.2.2.2.1) (hoth _ _ _ (by omega) h25.2.2.2.2.2.2))))))
        clear a3_0 a3_1
        replace a4_0 := hoth _ _ _ n3_4.symm a4_0
        replace a4_1 := hoth _ _ _ n3_4.symm a4_1
        rw [← hfr] at b4_0
        rw [← hfr] at b4_1
        replace a5_0 := hoth _ _ _ n5_3 a5_0
        replace a5_1 := hoth _ _ _ n5_3 a5_1
        rw [← hfr] at b5_0
        rw [← hfr] at b5_1
        generalize ((wa25.setCell ⟨p3, 0, none⟩ (.int .u64 (c0 : Nat))).setCell ⟨p3, 1, none⟩ (.int .i64 (m0 : Nat))) = wa26 at *
        clear hoth hfr hgr
        refine hK.out _ _ ?s26 (fun h26 => ?_)
        case s26 => exact hS
        clear hK K hS h25
        try simp only [Act.put, List.setIfInBounds_toArray, List.set_cons_zero, List.set_cons_succ]
        refine wpAnyH_ready (rs := [7]) (by kernel_rfl) (by simp) ?_
        refine AllReadyH.cons (o := { dst := none, op := Go.Op.store 69 (Go.Operand.tmp 8) (Go.Operand.tmp 21), type := 0, pos := "law.go:35", after := #[{ on := 4, ground := Go.Ground.data }, { on := 1, ground := Go.Ground.data }, { on := 6, ground := Go.Ground.chain }, { on := 0, ground := Go.Ground.phase }, { on := 1, ground := Go.Ground.phase }, { on := 2, ground := Go.Ground.textOnly Go.Departure.lateStores }, { on := 3, ground := Go.Ground.phase }, { on := 4, ground := Go.Ground.phase }, { on := 5, ground := Go.Ground.phase }, { on := 6, ground := Go.Ground.phase }], guard := none }) rfl (fun K hK => ?_) AllReadyH.nil
        go_simp
        obtain ⟨⟨x4_0, x4_1⟩, hoth, hfr, hgr⟩ := put2 a4_0 a4_1 (rfl : ((wa26.setCell ⟨p4, 0, none⟩ (.int .u64 (c1 : Nat))).setCell ⟨p4, 1, none⟩ (.int .i64 (m1 : Nat))) = _)
        have hS := And.intro (hgr _ h26.1 hle4) (And.intro (hoth _ _ _ (by omega) h26.2.1) (And.intro (hoth _ _ _ (by omega) h26.2.2.1) (And.intro (hoth _ _ _ (by omega) h26.2.2.2.1) (And.intro (hoth _ _ _ (by omega) h26.2.2.2.2.1) (And.intro (hoth _ _ _ (by omega) h26.2.2.2.2.2.1) (hoth _ _ _ (by omega) h26.2.2.2.2.2.2))))))
        clear a4_0 a4_1
        replace x3_0 := hoth _ _ _ n3_4 x3_0
        replace x3_1 := hoth _ _ _ n3_4 x3_1
        replace a5_0 := hoth _ _ _ n5_4 a5_0
        replace a5_1 := hoth _ _ _ n5_4 a5_1
        rw [← hfr] at b5_0
        rw [← hfr] at b5_1
        generalize ((wa26.setCell ⟨p4, 0, none⟩ (.int .u64 (c1 : Nat))).setCell ⟨p4, 1, none⟩ (.int .i64 (m1 : Nat))) = wa27 at *
        clear hoth hfr hgr
        refine hK.out _ _ ?s27 (fun h27 => ?_)
        case s27 => exact hS
        clear hK K hS h26
        try simp only [Act.put, List.setIfInBounds_toArray, List.set_cons_zero, List.set_cons_succ]
        refine wpAnyH_ready (rs := [8]) (by kernel_rfl) (by simp) ?_
        refine AllReadyH.cons (o := { dst := none, op := Go.Op.store 69 (Go.Operand.tmp 9) (Go.Operand.tmp 22), type := 0, pos := "law.go:35", after := #[{ on := 5, ground := Go.Ground.data }, { on := 2, ground := Go.Ground.data }, { on := 7, ground := Go.Ground.chain }, { on := 0, ground := Go.Ground.phase }, { on := 1, ground := Go.Ground.phase }, { on := 2, ground := Go.Ground.phase }, { on := 3, ground := Go.Ground.phase }, { on := 4, ground := Go.Ground.phase }, { on := 5, ground := Go.Ground.phase }, { on := 6, ground := Go.Ground.phase }, { on := 7, ground := Go.Ground.phase }], guard := none }) rfl (fun K hK => ?_) AllReadyH.nil
        go_simp
        obtain ⟨⟨x5_0, x5_1⟩, hoth, hfr, hgr⟩ := put2 a5_0 a5_1 (rfl : ((wa27.setCell ⟨p5, 0, none⟩ (.int .u64 (c2 : Nat))).setCell ⟨p5, 1, none⟩ (.int .i64 (m2 : Nat))) = _)
        have hS := And.intro (hgr _ h27.1 hle5) (And.intro (hoth _ _ _ (by omega) h27.2.1) (And.intro (hoth _ _ _ (by omega) h27.2.2.1) (And.intro (hoth _ _ _ (by omega) h27.2.2.2.1) (And.intro (hoth _ _ _ (by omega) h27.2.2.2.2.1) (And.intro (hoth _ _ _ (by omega) h27.2.2.2.2.2.1) (hoth _ _ _ (by omega) h27.2.2.2.2.2.2))))))
        clear a5_0 a5_1
        replace x3_0 := hoth _ _ _ n5_3.symm x3_0
        replace x3_1 := hoth _ _ _ n5_3.symm x3_1
        replace x4_0 := hoth _ _ _ n5_4.symm x4_0
        replace x4_1 := hoth _ _ _ n5_4.symm x4_1
        generalize ((wa27.setCell ⟨p5, 0, none⟩ (.int .u64 (c2 : Nat))).setCell ⟨p5, 1, none⟩ (.int .i64 (m2 : Nat))) = wa28 at *
        clear hoth hfr hgr
        refine hK.out _ _ ?s28 (fun h28 => ?_)
        case s28 => exact hS
        clear hK K hS h27
        try simp only [Act.put, List.setIfInBounds_toArray, List.set_cons_zero, List.set_cons_succ]
        refine wpAnyH_done (by kernel_rfl) ?_ _
        exact HL p3 p4 p5 _ ⟨h28, x3_0, x3_1, x4_0, x4_1, x5_0, x5_1⟩
      · skip
        go_simp
        obtain ⟨p4, hp4⟩ : ∃ p, p = wa23.heap.size := ⟨_, rfl⟩
        rw [← hp4]
        obtain ⟨wa29, hw⟩ : ∃ wn, wn = wa23.alloc (.cells #[.int .u64 0, .int .i64 0] 69) := ⟨_, rfl⟩
        rw [← hw]
        have gx : Gr wa23 wa29 := by rw [hw]; exact (Gr.refl _).alloc _
        have hle4 : w12.heap.size ≤ p4 := by rw [hp4]; exact GA23.out.size
        have n5_4 : p5 ≠ p4 := by have h7 := cell_lt a5_0; omega
        replace b5_0 := (gx.frozen (o := 0) (cell_lt a5_0)).trans b5_0
        replace b5_1 := (gx.frozen (o := 1) (cell_lt a5_1)).trans b5_1
        replace a5_0 := gx.cell a5_0
        replace a5_1 := gx.cell a5_1
        have a4_0 : wa29.cell? ⟨p4, 0, none⟩ = some (.int .u64 0) := by rw [hw, hp4]; exact new_cell rfl rfl
        have b4_0 : wa29.frozen? ⟨p4, 0, none⟩ = false := by rw [hw, hp4]; exact new_free rfl
        have a4_1 : wa29.cell? ⟨p4, 1, none⟩ = some (.int .i64 0) := by rw [hw, hp4]; exact new_cell rfl rfl
        have b4_1 : wa29.frozen? ⟨p4, 1, none⟩ = false := by rw [hw, hp4]; exact new_free rfl
        have GA29 := Lib.hid (GA23.out.trans gx)
        clear hw hp4
        refine hK.out _ _ ?s29 (fun h29 => ?_)
        case s29 => exact HX4.out _ _ gx h23
        clear hK K gx h23
        try simp only [Act.put, List.setIfInBounds_toArray, List.set_cons_zero, List.set_cons_succ]
        refine wpAnyH_ready (rs := [3]) (by kernel_rfl) (by simp) ?_
        refine AllReadyH.cons (o := { dst := some 7, op := Go.Op.alloc 69, type := 0, pos := "law.go:35", after := #[], guard := none }) rfl (fun K hK => ?_) AllReadyH.nil
        go_simp
        obtain ⟨p3, hp3⟩ : ∃ p, p = wa29.heap.size := ⟨_, rfl⟩
        rw [← hp3]
        obtain ⟨wa30, hw⟩ : ∃ wn, wn = wa29.alloc (.cells #[.int .u64 0, .int .i64 0] 69) := ⟨_, rfl⟩
        rw [← hw]
        have gx : Gr wa29 wa30 := by rw [hw]; exact (Gr.refl _).alloc _
        have hle3 : w12.heap.size ≤ p3 := by rw [hp3]; exact GA29.out.size
        have n5_3 : p5 ≠ p3 := by have h7 := cell_lt a5_0; omega
        have n4_3 : p4 ≠ p3 := by have h7 := cell_lt a4_0; omega
        replace b5_0 := (gx.frozen (o := 0) (cell_lt a5_0)).trans b5_0
        replace b5_1 := (gx.frozen (o := 1) (cell_lt a5_1)).trans b5_1
        replace a5_0 := gx.cell a5_0
        replace a5_1 := gx.cell a5_1
        replace b4_0 := (gx.frozen (o := 0) (cell_lt a4_0)).trans b4_0
        replace b4_1 := (gx.frozen (o := 1) (cell_lt a4_1)).trans b4_1
        replace a4_0 := gx.cell a4_0
        replace a4_1 := gx.cell a4_1
        have a3_0 : wa30.cell? ⟨p3, 0, none⟩ = some (.int .u64 0) := by rw [hw, hp3]; exact new_cell rfl rfl
        have b3_0 : wa30.frozen? ⟨p3, 0, none⟩ = false := by rw [hw, hp3]; exact new_free rfl
        have a3_1 : wa30.cell? ⟨p3, 1, none⟩ = some (.int .i64 0) := by rw [hw, hp3]; exact new_cell rfl rfl
        have b3_1 : wa30.frozen? ⟨p3, 1, none⟩ = false := by rw [hw, hp3]; exact new_free rfl
        have GA30 := Lib.hid (GA29.out.trans gx)
        clear hw hp3
        refine hK.out _ _ ?s30 (fun h30 => ?_)
        case s30 => exact HX4.out _ _ gx h29
        clear hK K gx h29
        try simp only [Act.put, List.setIfInBounds_toArray, List.set_cons_zero, List.set_cons_succ]
        refine wpAnyH_ready (rs := [6]) (by kernel_rfl) (by simp) ?_
        refine AllReadyH.cons (o := { dst := none, op := Go.Op.store 69 (Go.Operand.tmp 7) (Go.Operand.tmp 20), type := 0, pos := "law.go:35", after := #[{ on := 3, ground := Go.Ground.data }, { on := 0, ground := Go.Ground.data }, { on := 0, ground := Go.Ground.phase }, { on := 1, ground := Go.Ground.textOnly Go.Departure.lateStores }, { on := 2, ground := Go.Ground.textOnly Go.Departure.lateStores }, { on := 3, ground := Go.Ground.phase }, { on := 4, ground := Go.Ground.phase }, { on := 5, ground := Go.Ground.phase }], guard := none }) rfl (fun K hK => ?_) AllReadyH.nil
        go_simp
        obtain ⟨⟨x3_0, x3_1⟩, hoth, hfr, hgr⟩ := put2 a3_0 a3_1 (rfl : ((wa30.setCell ⟨p3, 0, none⟩ (.int .u64 (c0 : Nat))).setCell ⟨p3, 1, none⟩ (.int .i64 (m0 : Nat))) = _)
        have hS := And.intro (hgr _ h30.1 hle3) (And.intro (hoth _ _ _ (by omega) h30.2.1) (And.intro (hoth _ _ _ (by omega) h30.2.2.1) (And.intro (hoth _ _ _ (by omega) h30.2.2.2.1) (And.intro (hoth _ _ _ (by omega) h30.2.2.2.2.1) (And.intro (hoth _ _ _ (by omega) h30.2.2.2.2.2.1) (hoth _ _ _ (by omega) h30.2.2.2.2.2.2))))))
        clear a3_0 a3_1
        replace a4_0 := hoth _ _ _ n4_3 a4_0
        replace a4_1 := hoth _ _ _ n4_3 a4_1
        rw [← hfr] at b4_0
        rw [← hfr] at b4_1
        replace a5_0 := hoth _ _ _ n5_3 a5_0
        replace a5_1 := hoth _ _ _ n5_3 a5_1
        rw [← hfr] at b5_0
        rw [← hfr] at b5_1
        generalize ((wa30.setCell ⟨p3, 0, none⟩ (.int .u64 (c0 : Nat))).setCell ⟨p3, 1, none⟩ (.int .i64 (m0 : Nat))) = wa31 at *
        clear hoth hfr hgr
        refine hK.out _ _ ?s31 (fun h31 => ?_)
        case s31 => exact hS
        clear hK K hS h30
        try simp only [Act.put, List.setIfInBounds_toArray, List.set_cons_zero, List.set_cons_succ]
        refine wpAnyH_ready (rs := [7]) (by kernel_rfl) (by simp) ?_
        refine AllReadyH.cons (o := { dst := none, op := Go.Op.store 69 (Go.Operand.tmp 8) (Go.Operand.tmp 21), type := 0, pos := "law.go:35", after := #[{ on := 4, ground := Go.Ground.data }, { on := 1, ground := Go.Ground.data }, { on := 6, ground := Go.Ground.chain }, { on := 0, ground := Go.Ground.phase }, { on := 1, ground := Go.Ground.phase }, { on := 2, ground := Go.Ground.textOnly Go.Departure.lateStores }, { on := 3, ground := Go.Ground.phase }, { on := 4, ground := Go.Ground.phase }, { on := 5, ground := Go.Ground.phase }, { on := 6, ground := Go.Ground.phase }], guard := none }) rfl (fun K hK => ?_) AllReadyH.nil
        go_simp
        obtain ⟨⟨x4_0, x4_1⟩, hoth, hfr, hgr⟩ := put2 a4_0 a4_1 (rfl : ((wa31.setCell ⟨p4, 0, none⟩ (.int .u64 (c1 : Nat))).setCell ⟨p4, 1, none⟩ (.int .i64 (m1 : Nat))) = _)
        have hS := And.intro (hgr _ h31.1 hle4) (And.intro (hoth _ _ _ (by omega) h31.2.1) (And.intro (hoth _ _ _ (by omega) h31.2.2.1) (And.intro (hoth _ _ _ (by omega) h31.2.2.2.1) (And.intro (hoth _ _ _ (by omega) h31.2.2.2.2.1) (And.intro (hoth _ _ _ (by omega) h31.2.2.2.2.2.1) (hoth _ _ _ (by omega) h31.2.2.2.2.2.2))))))
        clear a4_0 a4_1
        replace x3_0 := hoth _ _ _ n4_3.symm x3_0
        replace x3_1 := hoth _ _ _ n4_3.symm x3_1
        replace a5_0 := hoth _ _ _ n5_4 a5_0
        replace a5_1 := hoth _ _ _ n5_4 a5_1
        rw [← hfr] at b5_0
        rw [← hfr] at b5_1
        generalize ((wa31.setCell ⟨p4, 0, none⟩ (.int .u64 (c1 : Nat))).setCell ⟨p4, 1, none⟩ (.int .i64 (m1 : Nat))) = wa32 at *
        clear hoth hfr hgr
        refine hK.out _ _ ?s32 (fun h32 => ?_)
        case s32 => exact hS
        clear hK K hS h31
        try simp only [Act.put, List.setIfInBounds_toArray, List.set_cons_zero, List.set_cons_succ]
        refine wpAnyH_ready (rs := [8]) (by kernel_rfl) (by simp) ?_
        refine AllReadyH.cons (o := { dst := none, op := Go.Op.store 69 (Go.Operand.tmp 9) (Go.Operand.tmp 22), type := 0, pos := "law.go:35", after := #[{ on := 5, ground := Go.Ground.data }, { on := 2, ground := Go.Ground.data }, { on := 7, ground := Go.Ground.chain }, { on := 0, ground := Go.Ground.phase }, { on := 1, ground := Go.Ground.phase }, { on := 2, ground := Go.Ground.phase }, { on := 3, ground := Go.Ground.phase }, { on := 4, ground := Go.Ground.phase }, { on := 5, ground := Go.Ground.phase }, { on := 6, ground := Go.Ground.phase }, { on := 7, ground := Go.Ground.phase }], guard := none }) rfl (fun K hK => ?_) AllReadyH.nil
        go_simp
        obtain ⟨⟨x5_0, x5_1⟩, hoth, hfr, hgr⟩ := put2 a5_0 a5_1 (rfl : ((wa32.setCell ⟨p5, 0, none⟩ (.int .u64 (c2 : Nat))).setCell ⟨p5, 1, none⟩ (.int .i64 (m2 : Nat))) = _)
        have hS := And.intro (hgr _ h32.1 hle5) (And.intro (hoth _ _ _ (by omega) h32.2.1) (And.intro (hoth _ _ _ (by omega) h32.2.2.1) (And.intro (hoth _ _ _ (by omega) h32.2.2.2.1) (And.intro (hoth _ _ _ (by omega) h32.2.2.2.2.1) (And.intro (hoth _ _ _ (by omega) h32.2.2.2.2.2.1) (hoth _ _ _ (by omega) h32.2.2.2.2.2.2))))))
        clear a5_0 a5_1
        replace x3_0 := hoth _ _ _ n5_3.symm x3_0
        replace x3_1 := hoth _ _ _ n5_3.symm x3_1
        replace x4_0 := hoth _ _ _ n5_4.symm x4_0
        replace x4_1 := hoth _ _ _ n5_4.symm x4_1
        generalize ((wa32.setCell ⟨p5, 0, none⟩ (.int .u64 (c2 : Nat))).setCell ⟨p5, 1, none⟩ (.int .i64 (m2 : Nat))) = wa33 at *
        clear hoth hfr hgr
        refine hK.out _ _ ?s33 (fun h33 => ?_)
        case s33 => exact hS
        clear hK K hS h32
        try simp only [Act.put, List.setIfInBounds_toArray, List.set_cons_zero, List.set_cons_succ]
        refine wpAnyH_done (by kernel_rfl) ?_ _
        exact HL p3 p4 p5 _ ⟨h33, x3_0, x3_1, x4_0, x4_1, x5_0, x5_1⟩
  case rest =>
    intro p q r w13 hS3
    obtain ⟨⟨g13, q0, q1, q2, q3, q4, q5⟩, x0, x1, x2, x3, x4, x5⟩ := hS3
    have G13 := Lib.hid (G12.out.trans g13)
    clear g13 HX4 HS4 hl0 hl1 hl2
    have CA := Lib.hid (compareB_any c0 m0 c1 m1)
    obtain ⟨v, hv⟩ : ∃ v, cmpB c0 m0 c1 m1 = v := ⟨_, rfl⟩
    have hways := cmpB_ways (c0 : Int) m0 c1 m1
    have hanti := cmpB_anti (c1 : Int) m1 c0 m0
    rw [hv] at CA hways hanti
    have AB := Lib.hid (above_any c0 m0 c1 m1)
    have BA := Lib.hid (above_any c1 m1 c0 m0)
    have ea := above_eq (c0 : Int) m0 c1 m1
    have eb := above_eq (c1 : Int) m1 c0 m0
    rw [hv] at ea
    rw [hanti] at eb
    generalize above (c0 : Int) m0 c1 m1 = ga at *
    generalize above (c1 : Int) m1 c0 m0 = gb at *
    have X1 : Hid (decide (0 < v) = ga) := Lib.hid ea.symm
    have X2 : Hid (decide (v < 0) = gb) := Lib.hid (by rw [eb, Bool.eq_iff_iff, decide_eq_true_eq, decide_eq_true_eq]; omega)
    have X3 : Hid (decide (v < -1) = false) := Lib.hid (decide_eq_false (by omega))
    have X4 : Hid (decide (1 < v) = false) := Lib.hid (decide_eq_false (by omega))
    have NN := Lib.hid (none08_any c0 m0)
    obtain ⟨nb, hnb⟩ : ∃ nb, decide ((c0 : Int) = 0 ∧ (m0 : Int) = 0) = nb := ⟨_, rfl⟩
    rw [hnb] at NN
    have X5 := Lib.hid hnb
    have HM := Lib.hid (max3 (a := (c0 : Int)) (b := (m0 : Int)) (c := (c1 : Int)) (d := (m1 : Int)) (e := (c2 : Int)) (f := (m2 : Int)) (by omega) (by omega) (by omega) (by omega))
    clear hv hways hanti ea eb hnb bc0 bc1 bc2 hm0 hm1 hm2 h00 h01 h02 R0 R1 R2
    go_wp2_with fail
    refine (CA.out _).mono ?_
    rintro e w14 ⟨rfl, hg⟩
    replace q0 := hg.cell q0
    replace x0 := hg.cell x0
    replace q1 := hg.cell q1
    replace x1 := hg.cell x1
    replace q2 := hg.cell q2
    replace x2 := hg.cell x2
    replace q3 := hg.cell q3
    replace x3 := hg.cell x3
    replace q4 := hg.cell q4
    replace x4 := hg.cell x4
    replace q5 := hg.cell q5
    replace x5 := hg.cell x5
    have G14 := Lib.hid (G13.out.trans hg)
    clear hg
    go_wp2
    have HX6 : Hid (∀ w0 w9 : World, Gr w0 w9 → (fun w9 => Gr w14 w9 ∧ w9.cell? ⟨b, 0, none⟩ = some (.int .u64 (c0 : Nat)) ∧ w9.cell? ⟨b, 1, none⟩ = some (.int .i64 (m0 : Nat)) ∧ w9.cell? ⟨b + 1, 0, none⟩ = some (.int .u64 (c1 : Nat)) ∧ w9.cell? ⟨b + 1, 1, none⟩ = some (.int .i64 (m1 : Nat)) ∧ w9.cell? ⟨p, 0, none⟩ = some (.int .u64 (c0 : Nat)) ∧ w9.cell? ⟨p, 1, none⟩ = some (.int .i64 (m0 : Nat))) w0 → (fun w9 => Gr w14 w9 ∧ w9.cell? ⟨b, 0, none⟩ = some (.int .u64 (c0 : Nat)) ∧ w9.cell? ⟨b, 1, none⟩ = some (.int .i64 (m0 : Nat)) ∧ w9.cell? ⟨b + 1, 0, none⟩ = some (.int .u64 (c1 : Nat)) ∧ w9.cell? ⟨b + 1, 1, none⟩ = some (.int .i64 (m1 : Nat)) ∧ w9.cell? ⟨p, 0, none⟩ = some (.int .u64 (c0 : Nat)) ∧ w9.cell? ⟨p, 1, none⟩ = some (.int .i64 (m0 : Nat))) w9) := Lib.hid fun w0 w9 hg ⟨h, q0, q1, q2, q3, q4, q5⟩ => ⟨h.trans hg, hg.cell q0, hg.cell q1, hg.cell q2, hg.cell q3, hg.cell q4, hg.cell q5⟩
    have HS6 := And.intro (Gr.refl w14) (And.intro (q0) (And.intro (q1) (And.intro (q2) (And.intro (q3) (And.intro (x0) (x1))))))
    refine wp_region_held_drew (S := (fun w9 => Gr w14 w9 ∧ w9.cell? ⟨b, 0, none⟩ = some (.int .u64 (c0 : Nat)) ∧ w9.cell? ⟨b, 1, none⟩ = some (.int .i64 (m0 : Nat)) ∧ w9.cell? ⟨b + 1, 0, none⟩ = some (.int .u64 (c1 : Nat)) ∧ w9.cell? ⟨b + 1, 1, none⟩ = some (.int .i64 (m1 : Nat)) ∧ w9.cell? ⟨p, 0, none⟩ = some (.int .u64 (c0 : Nat)) ∧ w9.cell? ⟨p, 1, none⟩ = some (.int .i64 (m0 : Nat)))) (by kernel_rfl) ?inve (fun h0 => ?_)
    case inve => ((try dsimp only); (first | exact HS6 | exact HX6.out _ _ ((Gr.refl _).drew) HS6))
    refine wpAnyH_take (i := 0) (oi := { dst := some 26, op := Go.Op.move (Go.Operand.tmp 10), type := 3, pos := "law.go:37", after := #[], guard := none }) (v := ?ve1) rfl (by kernel_rfl) (by kernel_rfl) (by kernel_rfl) (fun _ _ _ h => h) (Or.inl ⟨by rfl, ?re1⟩) (by assumption) ?_
    case re1 => (intro w hSw; (try dsimp only at hSw); (go_simp <;> with_reducible rfl))
    try simp only [Act.put, List.setIfInBounds_toArray, List.set_cons_zero, List.set_cons_succ]
    refine wpAnyH_take (i := 1) (oi := { dst := some 27, op := Go.Op.binOp Go.BinOp.gtr 3 (Go.Operand.tmp 26) (Go.Operand.const (Go.Value.int Go.IntKind.i64 0)) 3, type := 4, pos := "law.go:37", after := #[{ on := 0, ground := Go.Ground.data }], guard := none }) (v := (.bool ga)) rfl (by kernel_rfl) (by kernel_rfl) (by kernel_rfl) (fun _ _ _ h => h) (Or.inl ⟨by rfl, ?re2⟩) (by assumption) ?_
    case re2 => (intro w hSw; (try dsimp only at hSw); go_simp; simp [X1.out])
    try simp only [Act.put, List.setIfInBounds_toArray, List.set_cons_zero, List.set_cons_succ]
    refine wpAnyH_take (i := 2) (oi := { dst := some 28, op := Go.Op.load 67 (Go.Operand.tmp 3), type := 67, pos := "law.go:37", after := #[], guard := none }) (v := ?ve3) rfl (by kernel_rfl) (by kernel_rfl) (by kernel_rfl) (fun _ _ _ h => h) (Or.inl ⟨by rfl, ?re3⟩) (by assumption) ?_
    case re3 => (intro w hSw; (try dsimp only at hSw); (go_simp <;> with_reducible rfl))
    try simp only [Act.put, List.setIfInBounds_toArray, List.set_cons_zero, List.set_cons_succ]
    refine wpAnyH_take (i := 3) (oi := { dst := some 29, op := Go.Op.load 67 (Go.Operand.tmp 4), type := 67, pos := "law.go:37", after := #[], guard := none }) (v := ?ve4) rfl (by kernel_rfl) (by kernel_rfl) (by kernel_rfl) (fun _ _ _ h => h) (Or.inl ⟨by rfl, ?re4⟩) (by assumption) ?_
    case re4 => (intro w hSw; (try dsimp only at hSw); (go_simp <;> with_reducible rfl))
    try simp only [Act.put, List.setIfInBounds_toArray, List.set_cons_zero, List.set_cons_succ]
    refine wpAnyH_ready (rs := [4]) (by kernel_rfl) (by simp) ?_
    refine AllReadyH.cons (o := { dst := some 30, op := Go.Op.call { callee := Go.Callee.value (Go.Operand.func 48), args := #[Go.Operand.tmp 28, Go.Operand.tmp 29], argTypes := #[67, 67] }, type := 4, pos := "law.go:37", after := #[{ on := 2, ground := Go.Ground.data }, { on := 3, ground := Go.Ground.data }], guard := none }) rfl (fun K hK => ?_) AllReadyH.nil
    go_simp
    (go_at_call 48; refine (AB.out _).mono ?_; rintro e w9 ⟨rfl, hgN⟩)
    first | refine hK.out _ _ ?se5 (fun h5 => ?_) | (go_wp2_with fail; refine hK.out _ _ ?se5 (fun h5 => ?_))
    case se5 => ((try dsimp only); exact HX6.out _ _ hgN h0)
    clear hK K h0
    try simp only [Act.put, List.setIfInBounds_toArray, List.set_cons_zero, List.set_cons_succ]
    refine wpAnyH_take (i := 5) (oi := { dst := some 31, op := Go.Op.binOp Go.BinOp.neq 4 (Go.Operand.tmp 27) (Go.Operand.tmp 30) 4, type := 4, pos := "law.go:37", after := #[{ on := 1, ground := Go.Ground.data }, { on := 4, ground := Go.Ground.data }], guard := none }) (v := (.bool false)) rfl (by kernel_rfl) (by kernel_rfl) (by kernel_rfl) (fun _ _ _ h => h) (Or.inl ⟨by rfl, ?re6⟩) (by assumption) ?_
    case re6 => (intro w hSw; (try dsimp only at hSw); go_simp; try simp)
    try simp only [Act.put, List.setIfInBounds_toArray, List.set_cons_zero, List.set_cons_succ]
    refine wpAnyH_take (i := 6) (oi := { dst := some 32, op := Go.Op.move (Go.Operand.tmp 31), type := 4, pos := "law.go:37", after := #[{ on := 5, ground := Go.Ground.data }, { on := 4, ground := Go.Ground.chain }], guard := none }) (v := ?ve7) rfl (by kernel_rfl) (by kernel_rfl) (by kernel_rfl) (fun _ _ _ h => h) (Or.inl ⟨by rfl, ?re7⟩) (by assumption) ?_
    case re7 => (intro w hSw; (try dsimp only at hSw); (go_simp <;> with_reducible rfl))
    try simp only [Act.put, List.setIfInBounds_toArray, List.set_cons_zero, List.set_cons_succ]
    refine wpAnyH_take (i := 7) (oi := { dst := some 33, op := Go.Op.move (Go.Operand.tmp 10), type := 3, pos := "law.go:37", after := #[{ on := 6, ground := Go.Ground.guard }], guard := some (6, false) }) (v := ?ve8) rfl (by kernel_rfl) (by kernel_rfl) (by kernel_rfl) (fun _ _ _ h => h) (Or.inl ⟨by rfl, ?re8⟩) (by assumption) ?_
    case re8 => (intro w hSw; (try dsimp only at hSw); (go_simp <;> with_reducible rfl))
    try simp only [Act.put, List.setIfInBounds_toArray, List.set_cons_zero, List.set_cons_succ]
    refine wpAnyH_take (i := 8) (oi := { dst := some 34, op := Go.Op.binOp Go.BinOp.lss 3 (Go.Operand.tmp 33) (Go.Operand.const (Go.Value.int Go.IntKind.i64 0)) 3, type := 4, pos := "law.go:37", after := #[{ on := 7, ground := Go.Ground.data }, { on := 6, ground := Go.Ground.guard }], guard := some (6, false) }) (v := (.bool gb)) rfl (by kernel_rfl) (by kernel_rfl) (by kernel_rfl) (fun _ _ _ h => h) (Or.inl ⟨by rfl, ?re9⟩) (by assumption) ?_
    case re9 => (intro w hSw; (try dsimp only at hSw); go_simp; simp [X2.out])
    try simp only [Act.put, List.setIfInBounds_toArray, List.set_cons_zero, List.set_cons_succ]
    refine wpAnyH_take (i := 9) (oi := { dst := some 35, op := Go.Op.load 67 (Go.Operand.tmp 4), type := 67, pos := "law.go:37", after := #[{ on := 6, ground := Go.Ground.guard }], guard := some (6, false) }) (v := ?ve10) rfl (by kernel_rfl) (by kernel_rfl) (by kernel_rfl) (fun _ _ _ h => h) (Or.inl ⟨by rfl, ?re10⟩) (by assumption) ?_
    case re10 => (intro w hSw; (try dsimp only at hSw); (go_simp <;> with_reducible rfl))
    try simp only [Act.put, List.setIfInBounds_toArray, List.set_cons_zero, List.set_cons_succ]
    refine wpAnyH_take (i := 10) (oi := { dst := some 36, op := Go.Op.load 67 (Go.Operand.tmp 3), type := 67, pos := "law.go:37", after := #[{ on := 6, ground := Go.Ground.guard }], guard := some (6, false) }) (v := ?ve11) rfl (by kernel_rfl) (by kernel_rfl) (by kernel_rfl) (fun _ _ _ h => h) (Or.inl ⟨by rfl, ?re11⟩) (by assumption) ?_
    case re11 => (intro w hSw; (try dsimp only at hSw); (go_simp <;> with_reducible rfl))
    try simp only [Act.put, List.setIfInBounds_toArray, List.set_cons_zero, List.set_cons_succ]
    refine wpAnyH_ready (rs := [11]) (by kernel_rfl) (by simp) ?_
    refine AllReadyH.cons (o := { dst := some 37, op := Go.Op.call { callee := Go.Callee.value (Go.Operand.func 48), args := #[Go.Operand.tmp 35, Go.Operand.tmp 36], argTypes := #[67, 67] }, type := 4, pos := "law.go:37", after := #[{ on := 9, ground := Go.Ground.data }, { on := 10, ground := Go.Ground.data }, { on := 6, ground := Go.Ground.chain }, { on := 6, ground := Go.Ground.guard }], guard := some (6, false) }) rfl (fun K hK => ?_) AllReadyH.nil
    go_simp
    (go_at_call 48; refine (BA.out _).mono ?_; rintro e w9 ⟨rfl, hgN⟩)
    first | refine hK.out _ _ ?se12 (fun h12 => ?_) | (go_wp2_with fail; refine hK.out _ _ ?se12 (fun h12 => ?_))
    case se12 => ((try dsimp only); exact HX6.out _ _ hgN h5)
    clear hK K h5
    try simp only [Act.put, List.setIfInBounds_toArray, List.set_cons_zero, List.set_cons_succ]
    refine wpAnyH_take (i := 12) (oi := { dst := some 38, op := Go.Op.binOp Go.BinOp.neq 4 (Go.Operand.tmp 34) (Go.Operand.tmp 37) 4, type := 4, pos := "law.go:37", after := #[{ on := 8, ground := Go.Ground.data }, { on := 11, ground := Go.Ground.data }, { on := 6, ground := Go.Ground.guard }], guard := some (6, false) }) (v := (.bool false)) rfl (by kernel_rfl) (by kernel_rfl) (by kernel_rfl) (fun _ _ _ h => h) (Or.inl ⟨by rfl, ?re13⟩) (by assumption) ?_
    case re13 => (intro w hSw; (try dsimp only at hSw); go_simp; try simp)
    try simp only [Act.put, List.setIfInBounds_toArray, List.set_cons_zero, List.set_cons_succ]
    refine wpAnyH_take (i := 13) (oi := { dst := some 39, op := Go.Op.pick (Go.Operand.tmp 32) (Go.Operand.const (Go.Value.bool true)) (Go.Operand.tmp 38), type := 4, pos := "law.go:37", after := #[{ on := 6, ground := Go.Ground.data }, { on := 12, ground := Go.Ground.data }], guard := none }) (v := ?ve14) rfl (by kernel_rfl) (by kernel_rfl) (by kernel_rfl) (fun _ _ _ h => h) (Or.inl ⟨by rfl, ?re14⟩) (by assumption) ?_
    case re14 => (intro w hSw; (try dsimp only at hSw); (go_simp <;> with_reducible rfl))
    try simp only [Act.put, List.setIfInBounds_toArray, List.set_cons_zero, List.set_cons_succ]
    refine wpAnyH_take (i := 14) (oi := { dst := some 40, op := Go.Op.move (Go.Operand.tmp 39), type := 4, pos := "law.go:37", after := #[{ on := 13, ground := Go.Ground.data }, { on := 11, ground := Go.Ground.chain }], guard := none }) (v := ?ve15) rfl (by kernel_rfl) (by kernel_rfl) (by kernel_rfl) (fun _ _ _ h => h) (Or.inl ⟨by rfl, ?re15⟩) (by assumption) ?_
    case re15 => (intro w hSw; (try dsimp only at hSw); (go_simp <;> with_reducible rfl))
    try simp only [Act.put, List.setIfInBounds_toArray, List.set_cons_zero, List.set_cons_succ]
    refine wpAnyH_take (i := 15) (oi := { dst := some 41, op := Go.Op.move (Go.Operand.tmp 10), type := 3, pos := "law.go:37", after := #[{ on := 14, ground := Go.Ground.guard }], guard := some (14, false) }) (v := ?ve16) rfl (by kernel_rfl) (by kernel_rfl) (by kernel_rfl) (fun _ _ _ h => h) (Or.inl ⟨by rfl, ?re16⟩) (by assumption) ?_
    case re16 => (intro w hSw; (try dsimp only at hSw); (go_simp <;> with_reducible rfl))
    try simp only [Act.put, List.setIfInBounds_toArray, List.set_cons_zero, List.set_cons_succ]
    refine wpAnyH_take (i := 16) (oi := { dst := some 42, op := Go.Op.binOp Go.BinOp.lss 3 (Go.Operand.tmp 41) (Go.Operand.const (Go.Value.int Go.IntKind.i64 (-1))) 3, type := 4, pos := "law.go:37", after := #[{ on := 15, ground := Go.Ground.data }, { on := 14, ground := Go.Ground.guard }], guard := some (14, false) }) (v := (.bool false)) rfl (by kernel_rfl) (by kernel_rfl) (by kernel_rfl) (fun _ _ _ h => h) (Or.inl ⟨by rfl, ?re17⟩) (by assumption) ?_
    case re17 => (intro w hSw; (try dsimp only at hSw); go_simp; (first | (rw [X3.out]; done) | (rw [X3.out]; rfl) | (have h9 := X3.out; simp at h9 ⊢; omega)))
    try simp only [Act.put, List.setIfInBounds_toArray, List.set_cons_zero, List.set_cons_succ]
    refine wpAnyH_take (i := 17) (oi := { dst := some 43, op := Go.Op.pick (Go.Operand.tmp 40) (Go.Operand.const (Go.Value.bool true)) (Go.Operand.tmp 42), type := 4, pos := "law.go:37", after := #[{ on := 14, ground := Go.Ground.data }, { on := 16, ground := Go.Ground.data }], guard := none }) (v := ?ve18) rfl (by kernel_rfl) (by kernel_rfl) (by kernel_rfl) (fun _ _ _ h => h) (Or.inl ⟨by rfl, ?re18⟩) (by assumption) ?_
    case re18 => (intro w hSw; (try dsimp only at hSw); (go_simp <;> with_reducible rfl))
    try simp only [Act.put, List.setIfInBounds_toArray, List.set_cons_zero, List.set_cons_succ]
    refine wpAnyH_take (i := 18) (oi := { dst := some 44, op := Go.Op.move (Go.Operand.tmp 43), type := 4, pos := "law.go:37", after := #[{ on := 17, ground := Go.Ground.data }, { on := 14, ground := Go.Ground.chain }], guard := none }) (v := ?ve19) rfl (by kernel_rfl) (by kernel_rfl) (by kernel_rfl) (fun _ _ _ h => h) (Or.inl ⟨by rfl, ?re19⟩) (by assumption) ?_
    case re19 => (intro w hSw; (try dsimp only at hSw); (go_simp <;> with_reducible rfl))
    try simp only [Act.put, List.setIfInBounds_toArray, List.set_cons_zero, List.set_cons_succ]
    refine wpAnyH_take (i := 19) (oi := { dst := some 45, op := Go.Op.move (Go.Operand.tmp 10), type := 3, pos := "law.go:37", after := #[{ on := 18, ground := Go.Ground.guard }], guard := some (18, false) }) (v := ?ve20) rfl (by kernel_rfl) (by kernel_rfl) (by kernel_rfl) (fun _ _ _ h => h) (Or.inl ⟨by rfl, ?re20⟩) (by assumption) ?_
    case re20 => (intro w hSw; (try dsimp only at hSw); (go_simp <;> with_reducible rfl))
    try simp only [Act.put, List.setIfInBounds_toArray, List.set_cons_zero, List.set_cons_succ]
    refine wpAnyH_take (i := 20) (oi := { dst := some 46, op := Go.Op.binOp Go.BinOp.gtr 3 (Go.Operand.tmp 45) (Go.Operand.const (Go.Value.int Go.IntKind.i64 1)) 3, type := 4, pos := "law.go:37", after := #[{ on := 19, ground := Go.Ground.data }, { on := 18, ground := Go.Ground.guard }], guard := some (18, false) }) (v := (.bool false)) rfl (by kernel_rfl) (by kernel_rfl) (by kernel_rfl) (fun _ _ _ h => h) (Or.inl ⟨by rfl, ?re21⟩) (by assumption) ?_
    case re21 => (intro w hSw; (try dsimp only at hSw); go_simp; (first | (rw [X4.out]; done) | (rw [X4.out]; rfl) | (have h9 := X4.out; simp at h9 ⊢; omega)))
    try simp only [Act.put, List.setIfInBounds_toArray, List.set_cons_zero, List.set_cons_succ]
    refine wpAnyH_take (i := 21) (oi := { dst := some 47, op := Go.Op.pick (Go.Operand.tmp 44) (Go.Operand.const (Go.Value.bool true)) (Go.Operand.tmp 46), type := 4, pos := "law.go:37", after := #[{ on := 18, ground := Go.Ground.data }, { on := 20, ground := Go.Ground.data }], guard := none }) (v := ?ve22) rfl (by kernel_rfl) (by kernel_rfl) (by kernel_rfl) (fun _ _ _ h => h) (Or.inl ⟨by rfl, ?re22⟩) (by assumption) ?_
    case re22 => (intro w hSw; (try dsimp only at hSw); (go_simp <;> with_reducible rfl))
    try simp only [Act.put, List.setIfInBounds_toArray, List.set_cons_zero, List.set_cons_succ]
    refine wpAnyH_take (i := 22) (oi := { dst := some 48, op := Go.Op.move (Go.Operand.tmp 47), type := 4, pos := "law.go:37", after := #[{ on := 21, ground := Go.Ground.data }, { on := 18, ground := Go.Ground.chain }], guard := none }) (v := ?ve23) rfl (by kernel_rfl) (by kernel_rfl) (by kernel_rfl) (fun _ _ _ h => h) (Or.inl ⟨by rfl, ?re23⟩) (by assumption) ?_
    case re23 => (intro w hSw; (try dsimp only at hSw); (go_simp <;> with_reducible rfl))
    try simp only [Act.put, List.setIfInBounds_toArray, List.set_cons_zero, List.set_cons_succ]
    refine wpAnyH_take (i := 23) (oi := { dst := some 49, op := Go.Op.load 69 (Go.Operand.tmp 7), type := 69, pos := "law.go:37", after := #[{ on := 22, ground := Go.Ground.guard }], guard := some (22, false) }) (v := ?ve24) rfl (by kernel_rfl) (by kernel_rfl) (by kernel_rfl) (fun _ _ _ h => h) (Or.inl ⟨by rfl, ?re24⟩) (by assumption) ?_
    case re24 => (intro w hSw; (try dsimp only at hSw); (go_simp <;> with_reducible rfl))
    try simp only [Act.put, List.setIfInBounds_toArray, List.set_cons_zero, List.set_cons_succ]
    refine wpAnyH_take (i := 25) (oi := { dst := some 51, op := Go.Op.load 67 (Go.Operand.tmp 3), type := 67, pos := "law.go:37", after := #[{ on := 22, ground := Go.Ground.guard }], guard := some (22, false) }) (v := ?ve25) rfl (by kernel_rfl) (by kernel_rfl) (by kernel_rfl) (fun _ _ _ h => h) (Or.inl ⟨by rfl, ?re25⟩) (by assumption) ?_
    case re25 => (intro w hSw; (try dsimp only at hSw); (go_simp <;> with_reducible rfl))
    try simp only [Act.put, List.setIfInBounds_toArray, List.set_cons_zero, List.set_cons_succ]
    refine wpAnyH_take (i := 26) (oi := { dst := some 52, op := Go.Op.build 67 #[], type := 67, pos := "law.go:37", after := #[{ on := 22, ground := Go.Ground.guard }], guard := some (22, false) }) (v := ?ve26) rfl (by kernel_rfl) (by kernel_rfl) (by kernel_rfl) (fun _ _ _ h => h) (Or.inl ⟨by rfl, ?re26⟩) (by assumption) ?_
    case re26 => (intro w hSw; (try dsimp only at hSw); (go_simp <;> with_reducible rfl))
    try simp only [Act.put, List.setIfInBounds_toArray, List.set_cons_zero, List.set_cons_succ]
    refine wpAnyH_take (i := 27) (oi := { dst := some 53, op := Go.Op.binOp Go.BinOp.eql 67 (Go.Operand.tmp 51) (Go.Operand.tmp 52) 67, type := 4, pos := "law.go:37", after := #[{ on := 25, ground := Go.Ground.data }, { on := 26, ground := Go.Ground.data }, { on := 22, ground := Go.Ground.guard }], guard := some (22, false) }) (v := (.bool nb)) rfl (by kernel_rfl) (by kernel_rfl) (by kernel_rfl) (fun _ _ _ h => h) (Or.inl ⟨by rfl, ?re27⟩) (by assumption) ?_
    case re27 => (intro w hSw; (try dsimp only at hSw); go_simp; (rw [← X5.out]; by_cases e1 : c0 = 0 <;> by_cases e2 : m0 = 0 <;> simp [e1, e2]))
    try simp only [Act.put, List.setIfInBounds_toArray, List.set_cons_zero, List.set_cons_succ]
    refine wpAnyH_ready (rs := [24]) (by kernel_rfl) (by simp) ?_
    refine AllReadyH.cons (o := { dst := some 50, op := Go.Op.call { callee := Go.Callee.value (Go.Operand.func 49), args := #[Go.Operand.tmp 49], argTypes := #[69] }, type := 4, pos := "law.go:37", after := #[{ on := 23, ground := Go.Ground.data }, { on := 22, ground := Go.Ground.chain }, { on := 22, ground := Go.Ground.guard }], guard := some (22, false) }) rfl (fun K hK => ?_) AllReadyH.nil
    go_simp
    (go_at_call 49; refine (NN.out _).mono ?_; rintro e w9 ⟨rfl, hgN⟩)
    first | refine hK.out _ _ ?se28 (fun h28 => ?_) | (go_wp2_with fail; refine hK.out _ _ ?se28 (fun h28 => ?_))
    case se28 => ((try dsimp only); exact HX6.out _ _ hgN h12)
    clear hK K h12
    try simp only [Act.put, List.setIfInBounds_toArray, List.set_cons_zero, List.set_cons_succ]
    refine wpAnyH_take (i := 28) (oi := { dst := some 54, op := Go.Op.binOp Go.BinOp.neq 4 (Go.Operand.tmp 50) (Go.Operand.tmp 53) 4, type := 4, pos := "law.go:37", after := #[{ on := 24, ground := Go.Ground.data }, { on := 27, ground := Go.Ground.data }, { on := 22, ground := Go.Ground.guard }], guard := some (22, false) }) (v := (.bool false)) rfl (by kernel_rfl) (by kernel_rfl) (by kernel_rfl) (fun _ _ _ h => h) (Or.inl ⟨by rfl, ?re29⟩) (by assumption) ?_
    case re29 => (intro w hSw; (try dsimp only at hSw); go_simp; try simp)
    try simp only [Act.put, List.setIfInBounds_toArray, List.set_cons_zero, List.set_cons_succ]
    refine wpAnyH_take (i := 29) (oi := { dst := some 55, op := Go.Op.pick (Go.Operand.tmp 48) (Go.Operand.const (Go.Value.bool true)) (Go.Operand.tmp 54), type := 4, pos := "law.go:37", after := #[{ on := 22, ground := Go.Ground.data }, { on := 28, ground := Go.Ground.data }], guard := none }) (v := ?ve30) rfl (by kernel_rfl) (by kernel_rfl) (by kernel_rfl) (fun _ _ _ h => h) (Or.inl ⟨by rfl, ?re30⟩) (by assumption) ?_
    case re30 => (intro w hSw; (try dsimp only at hSw); (go_simp <;> with_reducible rfl))
    try simp only [Act.put, List.setIfInBounds_toArray, List.set_cons_zero, List.set_cons_succ]
    refine wpAnyH_done (by kernel_rfl) ?_ _
    obtain ⟨g9, -⟩ := h28
    have G9 := Lib.hid g9
    replace x0 := g9.cell x0
    replace x1 := g9.cell x1
    replace x2 := g9.cell x2
    replace x3 := g9.cell x3
    replace x4 := g9.cell x4
    replace x5 := g9.cell x5
    have G15 := Lib.hid (G14.out.trans g9)
    clear g9 G9
    generalize w9 = w15 at *
    go_wp2_with fail
    obtain ⟨mc, mn, hmx, hin, ge0, ge1, ge2⟩ := HM.out
    have HGE := Lib.hid (And.intro ge0 (And.intro ge1 ge2))
    have HMX := Lib.hid hmx
    have HIN := Lib.hid hin
    clear hmx hin ge0 ge1 ge2 HM
    have hz := (Gr.refl w15).alloc (.cells #[.int .u64 (c0 : Nat), .int .i64 (m0 : Nat), .int .u64 (c1 : Nat), .int .i64 (m1 : Nat), .int .u64 (c2 : Nat), .int .i64 (m2 : Nat)] 69)
    have hy := Gr.refl (w15.alloc (.cells #[.int .u64 (c0 : Nat), .int .i64 (m0 : Nat), .int .u64 (c1 : Nat), .int .i64 (m1 : Nat), .int .u64 (c2 : Nat), .int .i64 (m2 : Nat)] 69))
    have hrow : BRow (w15.alloc (.cells #[.int .u64 (c0 : Nat), .int .i64 (m0 : Nat), .int .u64 (c1 : Nat), .int .i64 (m1 : Nat), .int .u64 (c2 : Nat), .int .i64 (m2 : Nat)] 69)) (some ⟨w15.heap.size, 0, none⟩) [((c0 : Int), (m0 : Int)), ((c1 : Int), (m1 : Int)), ((c2 : Int), (m2 : Int))] := by
      refine .inr ⟨_, 0, rfl, fun i hi => ?_⟩
      match i, hi with
      | 0, _ => exact ⟨hy.own.1 0 _ rfl, hy.own.1 1 _ rfl⟩
      | 1, _ => exact ⟨hy.own.1 2 _ rfl, hy.own.1 3 _ rfl⟩
      | 2, _ => exact ⟨hy.own.1 4 _ rfl, hy.own.1 5 _ rfl⟩
    have MX := Lib.hid (max_any [((c0 : Int), (m0 : Int)), ((c1 : Int), (m1 : Int)), ((c2 : Int), (m2 : Int))] (some ⟨w15.heap.size, 0, none⟩) 3 _ (by simp) hrow)
    rw [HMX.out] at MX
    have MX0 := Lib.hid (fun w => max_any [] none 0 w (by simp) (.inl rfl))
    have NN0 := Lib.hid (none08_any 0 0)
    replace x0 := hz.cell x0
    replace x1 := hz.cell x1
    replace x2 := hz.cell x2
    replace x3 := hz.cell x3
    replace x4 := hz.cell x4
    replace x5 := hz.cell x5
    have G16 := Lib.hid (G15.out.trans hz)
    clear hz hy hrow
    go_wp2_with fail
    refine MX.out.mono ?_
    rintro e w17 ⟨rfl, hg⟩
    replace x0 := hg.cell x0
    replace x1 := hg.cell x1
    replace x2 := hg.cell x2
    replace x3 := hg.cell x3
    replace x4 := hg.cell x4
    replace x5 := hg.cell x5
    have G17 := Lib.hid (G16.out.trans hg)
    clear hg
    have hz := (Gr.refl w17).alloc (.cells #[.int .u64 mc, .int .i64 mn] 69)
    have hy := Gr.refl (w17.alloc (.cells #[.int .u64 mc, .int .i64 mn] 69))
    have y0 := hy.own.1 0 _ rfl
    have y1 := hy.own.1 1 _ rfl
    replace x0 := hz.cell x0
    replace x1 := hz.cell x1
    replace x2 := hz.cell x2
    replace x3 := hz.cell x3
    replace x4 := hz.cell x4
    replace x5 := hz.cell x5
    have G18 := Lib.hid (G17.out.trans hz)
    clear hz hy
    have C0 := Lib.hid (compareB_any mc mn c0 m0)
    have C1 := Lib.hid (compareB_any mc mn c1 m1)
    have C2 := Lib.hid (compareB_any mc mn c2 m2)
    obtain ⟨t0, t1, t2⟩ := HGE.out
    generalize cmpB mc mn c0 m0 = v0 at *
    generalize cmpB mc mn c1 m1 = v1 at *
    generalize cmpB mc mn c2 m2 = v2 at *
    rcases HIN.out with ⟨rfl, rfl⟩ | ⟨rfl, rfl⟩ | ⟨rfl, rfl⟩
    · go_wp2_with fail
      refine (C0.out _).mono ?_
      rintro e w20 ⟨rfl, hg⟩
      replace x0 := hg.cell x0
      replace x1 := hg.cell x1
      replace x2 := hg.cell x2
      replace x3 := hg.cell x3
      replace x4 := hg.cell x4
      replace x5 := hg.cell x5
      replace y0 := hg.cell y0
      replace y1 := hg.cell y1
      have G20 := Lib.hid (G18.out.trans hg)
      clear hg
      go_wp2_with fail
      refine (C1.out _).mono ?_
      rintro e w21 ⟨rfl, hg⟩
      replace x0 := hg.cell x0
      replace x1 := hg.cell x1
      replace x2 := hg.cell x2
      replace x3 := hg.cell x3
      replace x4 := hg.cell x4
      replace x5 := hg.cell x5
      replace y0 := hg.cell y0
      replace y1 := hg.cell y1
      have G21 := Lib.hid (G20.out.trans hg)
      clear hg
      go_wp2_with fail
      refine (C2.out _).mono ?_
      rintro e w22 ⟨rfl, hg⟩
      replace x0 := hg.cell x0
      replace x1 := hg.cell x1
      replace x2 := hg.cell x2
      replace x3 := hg.cell x3
      replace x4 := hg.cell x4
      replace x5 := hg.cell x5
      replace y0 := hg.cell y0
      replace y1 := hg.cell y1
      have G22 := Lib.hid (G21.out.trans hg)
      clear hg
      go_wp2_with fail
      refine (MX0.out _).mono ?_
      rintro e w23 ⟨rfl, hg3⟩
      have G23 := Lib.hid (G22.out.trans hg3)
      clear hg3
      have hM0 : maxB [] = (0, 0) := rfl
      rw [hM0]
      go_wp2_with fail
      refine (NN0.out _).mono ?_
      rintro e w24 ⟨rfl, hg4⟩
      go_wp2
      go_ret
      exact ⟨by first | rfl | (simp; done), G23.out.trans hg4⟩
    · by_cases d1 : c1 = c0
      · subst d1
        by_cases d2 : m1 = m0
        · subst d2
          go_wp2_with fail
          refine (C0.out _).mono ?_
          rintro e w20 ⟨rfl, hg⟩
          replace x0 := hg.cell x0
          replace x1 := hg.cell x1
          replace x2 := hg.cell x2
          replace x3 := hg.cell x3
          replace x4 := hg.cell x4
          replace x5 := hg.cell x5
          replace y0 := hg.cell y0
          replace y1 := hg.cell y1
          have G20 := Lib.hid (G18.out.trans hg)
          clear hg
          go_wp2_with fail
          refine (C1.out _).mono ?_
          rintro e w21 ⟨rfl, hg⟩
          replace x0 := hg.cell x0
          replace x1 := hg.cell x1
          replace x2 := hg.cell x2
          replace x3 := hg.cell x3
          replace x4 := hg.cell x4
          replace x5 := hg.cell x5
          replace y0 := hg.cell y0
          replace y1 := hg.cell y1
          have G21 := Lib.hid (G20.out.trans hg)
          clear hg
          go_wp2_with fail
          refine (C2.out _).mono ?_
          rintro e w22 ⟨rfl, hg⟩
          replace x0 := hg.cell x0
          replace x1 := hg.cell x1
          replace x2 := hg.cell x2
          replace x3 := hg.cell x3
          replace x4 := hg.cell x4
          replace x5 := hg.cell x5
          replace y0 := hg.cell y0
          replace y1 := hg.cell y1
          have G22 := Lib.hid (G21.out.trans hg)
          clear hg
          go_wp2_with fail
          refine (MX0.out _).mono ?_
          rintro e w23 ⟨rfl, hg3⟩
          have G23 := Lib.hid (G22.out.trans hg3)
          clear hg3
          have hM0 : maxB [] = (0, 0) := rfl
          rw [hM0]
          go_wp2_with fail
          refine (NN0.out _).mono ?_
          rintro e w24 ⟨rfl, hg4⟩
          go_wp2
          go_ret
          exact ⟨by first | rfl | (simp; done), G23.out.trans hg4⟩
        · go_wp2_with fail
          refine (C0.out _).mono ?_
          rintro e w20 ⟨rfl, hg⟩
          replace x0 := hg.cell x0
          replace x1 := hg.cell x1
          replace x2 := hg.cell x2
          replace x3 := hg.cell x3
          replace x4 := hg.cell x4
          replace x5 := hg.cell x5
          replace y0 := hg.cell y0
          replace y1 := hg.cell y1
          have G20 := Lib.hid (G18.out.trans hg)
          clear hg
          go_wp2_with fail
          refine (C1.out _).mono ?_
          rintro e w21 ⟨rfl, hg⟩
          replace x0 := hg.cell x0
          replace x1 := hg.cell x1
          replace x2 := hg.cell x2
          replace x3 := hg.cell x3
          replace x4 := hg.cell x4
          replace x5 := hg.cell x5
          replace y0 := hg.cell y0
          replace y1 := hg.cell y1
          have G21 := Lib.hid (G20.out.trans hg)
          clear hg
          go_wp2_with fail
          refine (C2.out _).mono ?_
          rintro e w22 ⟨rfl, hg⟩
          replace x0 := hg.cell x0
          replace x1 := hg.cell x1
          replace x2 := hg.cell x2
          replace x3 := hg.cell x3
          replace x4 := hg.cell x4
          replace x5 := hg.cell x5
          replace y0 := hg.cell y0
          replace y1 := hg.cell y1
          have G22 := Lib.hid (G21.out.trans hg)
          clear hg
          go_wp2_with fail
          refine (MX0.out _).mono ?_
          rintro e w23 ⟨rfl, hg3⟩
          have G23 := Lib.hid (G22.out.trans hg3)
          clear hg3
          have hM0 : maxB [] = (0, 0) := rfl
          rw [hM0]
          go_wp2_with fail
          refine (NN0.out _).mono ?_
          rintro e w24 ⟨rfl, hg4⟩
          go_wp2
          go_ret
          exact ⟨by first | rfl | (simp; done), G23.out.trans hg4⟩
      · go_wp2_with fail
        refine (C0.out _).mono ?_
        rintro e w20 ⟨rfl, hg⟩
        replace x0 := hg.cell x0
        replace x1 := hg.cell x1
        replace x2 := hg.cell x2
        replace x3 := hg.cell x3
        replace x4 := hg.cell x4
        replace x5 := hg.cell x5
        replace y0 := hg.cell y0
        replace y1 := hg.cell y1
        have G20 := Lib.hid (G18.out.trans hg)
        clear hg
        go_wp2_with fail
        refine (C1.out _).mono ?_
        rintro e w21 ⟨rfl, hg⟩
        replace x0 := hg.cell x0
        replace x1 := hg.cell x1
        replace x2 := hg.cell x2
        replace x3 := hg.cell x3
        replace x4 := hg.cell x4
        replace x5 := hg.cell x5
        replace y0 := hg.cell y0
        replace y1 := hg.cell y1
        have G21 := Lib.hid (G20.out.trans hg)
        clear hg
        go_wp2_with fail
        refine (C2.out _).mono ?_
        rintro e w22 ⟨rfl, hg⟩
        replace x0 := hg.cell x0
        replace x1 := hg.cell x1
        replace x2 := hg.cell x2
        replace x3 := hg.cell x3
        replace x4 := hg.cell x4
        replace x5 := hg.cell x5
        replace y0 := hg.cell y0
        replace y1 := hg.cell y1
        have G22 := Lib.hid (G21.out.trans hg)
        clear hg
        go_wp2_with fail
        refine (MX0.out _).mono ?_
        rintro e w23 ⟨rfl, hg3⟩
        have G23 := Lib.hid (G22.out.trans hg3)
        clear hg3
        have hM0 : maxB [] = (0, 0) := rfl
        rw [hM0]
        go_wp2_with fail
        refine (NN0.out _).mono ?_
        rintro e w24 ⟨rfl, hg4⟩
        go_wp2
        go_ret
        exact ⟨by first | rfl | (simp; done), G23.out.trans hg4⟩
    · by_cases d1 : c2 = c0
      · subst d1
        by_cases d2 : m2 = m0
        · subst d2
          go_wp2_with fail
          refine (C0.out _).mono ?_
          rintro e w20 ⟨rfl, hg⟩
          replace x0 := hg.cell x0
          replace x1 := hg.cell x1
          replace x2 := hg.cell x2
          replace x3 := hg.cell x3
          replace x4 := hg.cell x4
          replace x5 := hg.cell x5
          replace y0 := hg.cell y0
          replace y1 := hg.cell y1
          have G20 := Lib.hid (G18.out.trans hg)
          clear hg
          go_wp2_with fail
          refine (C1.out _).mono ?_
          rintro e w21 ⟨rfl, hg⟩
          replace x0 := hg.cell x0
          replace x1 := hg.cell x1
          replace x2 := hg.cell x2
          replace x3 := hg.cell x3
          replace x4 := hg.cell x4
          replace x5 := hg.cell x5
          replace y0 := hg.cell y0
          replace y1 := hg.cell y1
          have G21 := Lib.hid (G20.out.trans hg)
          clear hg
          go_wp2_with fail
          refine (C2.out _).mono ?_
          rintro e w22 ⟨rfl, hg⟩
          replace x0 := hg.cell x0
          replace x1 := hg.cell x1
          replace x2 := hg.cell x2
          replace x3 := hg.cell x3
          replace x4 := hg.cell x4
          replace x5 := hg.cell x5
          replace y0 := hg.cell y0
          replace y1 := hg.cell y1
          have G22 := Lib.hid (G21.out.trans hg)
          clear hg
          go_wp2_with fail
          refine (MX0.out _).mono ?_
          rintro e w23 ⟨rfl, hg3⟩
          have G23 := Lib.hid (G22.out.trans hg3)
          clear hg3
          have hM0 : maxB [] = (0, 0) := rfl
          rw [hM0]
          go_wp2_with fail
          refine (NN0.out _).mono ?_
          rintro e w24 ⟨rfl, hg4⟩
          go_wp2
          go_ret
          exact ⟨by first | rfl | (simp; done), G23.out.trans hg4⟩
        · skip
          by_cases d3 : c2 = c1
          · subst d3
            by_cases d4 : m2 = m1
            · subst d4
              go_wp2_with fail
              refine (C0.out _).mono ?_
              rintro e w20 ⟨rfl, hg⟩
              replace x0 := hg.cell x0
              replace x1 := hg.cell x1
              replace x2 := hg.cell x2
              replace x3 := hg.cell x3
              replace x4 := hg.cell x4
              replace x5 := hg.cell x5
              replace y0 := hg.cell y0
              replace y1 := hg.cell y1
              have G20 := Lib.hid (G18.out.trans hg)
              clear hg
              go_wp2_with fail
              refine (C1.out _).mono ?_
              rintro e w21 ⟨rfl, hg⟩
              replace x0 := hg.cell x0
              replace x1 := hg.cell x1
              replace x2 := hg.cell x2
              replace x3 := hg.cell x3
              replace x4 := hg.cell x4
              replace x5 := hg.cell x5
              replace y0 := hg.cell y0
              replace y1 := hg.cell y1
              have G21 := Lib.hid (G20.out.trans hg)
              clear hg
              go_wp2_with fail
              refine (C2.out _).mono ?_
              rintro e w22 ⟨rfl, hg⟩
              replace x0 := hg.cell x0
              replace x1 := hg.cell x1
              replace x2 := hg.cell x2
              replace x3 := hg.cell x3
              replace x4 := hg.cell x4
              replace x5 := hg.cell x5
              replace y0 := hg.cell y0
              replace y1 := hg.cell y1
              have G22 := Lib.hid (G21.out.trans hg)
              clear hg
              go_wp2_with fail
              refine (MX0.out _).mono ?_
              rintro e w23 ⟨rfl, hg3⟩
              have G23 := Lib.hid (G22.out.trans hg3)
              clear hg3
              have hM0 : maxB [] = (0, 0) := rfl
              rw [hM0]
              go_wp2_with fail
              refine (NN0.out _).mono ?_
              rintro e w24 ⟨rfl, hg4⟩
              go_wp2
              go_ret
              exact ⟨by first | rfl | (simp; done), G23.out.trans hg4⟩
            · go_wp2_with fail
              refine (C0.out _).mono ?_
              rintro e w20 ⟨rfl, hg⟩
              replace x0 := hg.cell x0
              replace x1 := hg.cell x1
              replace x2 := hg.cell x2
              replace x3 := hg.cell x3
              replace x4 := hg.cell x4
              replace x5 := hg.cell x5
              replace y0 := hg.cell y0
              replace y1 := hg.cell y1
              have G20 := Lib.hid (G18.out.trans hg)
              clear hg
              go_wp2_with fail
              refine (C1.out _).mono ?_
              rintro e w21 ⟨rfl, hg⟩
              replace x0 := hg.cell x0
              replace x1 := hg.cell x1
              replace x2 := hg.cell x2
              replace x3 := hg.cell x3
              replace x4 := hg.cell x4
              replace x5 := hg.cell x5
              replace y0 := hg.cell y0
              replace y1 := hg.cell y1
              have G21 := Lib.hid (G20.out.trans hg)
              clear hg
              go_wp2_with fail
              refine (C2.out _).mono ?_
              rintro e w22 ⟨rfl, hg⟩
              replace x0 := hg.cell x0
              replace x1 := hg.cell x1
              replace x2 := hg.cell x2
              replace x3 := hg.cell x3
              replace x4 := hg.cell x4
              replace x5 := hg.cell x5
              replace y0 := hg.cell y0
              replace y1 := hg.cell y1
              have G22 := Lib.hid (G21.out.trans hg)
              clear hg
              go_wp2_with fail
              refine (MX0.out _).mono ?_
              rintro e w23 ⟨rfl, hg3⟩
              have G23 := Lib.hid (G22.out.trans hg3)
              clear hg3
              have hM0 : maxB [] = (0, 0) := rfl
              rw [hM0]
              go_wp2_with fail
              refine (NN0.out _).mono ?_
              rintro e w24 ⟨rfl, hg4⟩
              go_wp2
              go_ret
              exact ⟨by first | rfl | (simp; done), G23.out.trans hg4⟩
          · go_wp2_with fail
            refine (C0.out _).mono ?_
            rintro e w20 ⟨rfl, hg⟩
            replace x0 := hg.cell x0
            replace x1 := hg.cell x1
            replace x2 := hg.cell x2
            replace x3 := hg.cell x3
            replace x4 := hg.cell x4
            replace x5 := hg.cell x5
            replace y0 := hg.cell y0
            replace y1 := hg.cell y1
            have G20 := Lib.hid (G18.out.trans hg)
            clear hg
            go_wp2_with fail
            refine (C1.out _).mono ?_
            rintro e w21 ⟨rfl, hg⟩
            replace x0 := hg.cell x0
            replace x1 := hg.cell x1
            replace x2 := hg.cell x2
            replace x3 := hg.cell x3
            replace x4 := hg.cell x4
            replace x5 := hg.cell x5
            replace y0 := hg.cell y0
            replace y1 := hg.cell y1
            have G21 := Lib.hid (G20.out.trans hg)
            clear hg
            go_wp2_with fail
            refine (C2.out _).mono ?_
            rintro e w22 ⟨rfl, hg⟩
            replace x0 := hg.cell x0
            replace x1 := hg.cell x1
            replace x2 := hg.cell x2
            replace x3 := hg.cell x3
            replace x4 := hg.cell x4
            replace x5 := hg.cell x5
            replace y0 := hg.cell y0
            replace y1 := hg.cell y1
            have G22 := Lib.hid (G21.out.trans hg)
            clear hg
            go_wp2_with fail
            refine (MX0.out _).mono ?_
            rintro e w23 ⟨rfl, hg3⟩
            have G23 := Lib.hid (G22.out.trans hg3)
            clear hg3
            have hM0 : maxB [] = (0, 0) := rfl
            rw [hM0]
            go_wp2_with fail
            refine (NN0.out _).mono ?_
            rintro e w24 ⟨rfl, hg4⟩
            go_wp2
            go_ret
            exact ⟨by first | rfl | (simp; done), G23.out.trans hg4⟩
      · skip
        by_cases d3 : c2 = c1
        · subst d3
          by_cases d4 : m2 = m1
          · subst d4
            go_wp2_with fail
            refine (C0.out _).mono ?_
            rintro e w20 ⟨rfl, hg⟩
            replace x0 := hg.cell x0
            replace x1 := hg.cell x1
            replace x2 := hg.cell x2
            replace x3 := hg.cell x3
            replace x4 := hg.cell x4
            replace x5 := hg.cell x5
            replace y0 := hg.cell y0
            replace y1 := hg.cell y1
            have G20 := Lib.hid (G18.out.trans hg)
            clear hg
            go_wp2_with fail
            refine (C1.out _).mono ?_
            rintro e w21 ⟨rfl, hg⟩
            replace x0 := hg.cell x0
            replace x1 := hg.cell x1
            replace x2 := hg.cell x2
            replace x3 := hg.cell x3
            replace x4 := hg.cell x4
            replace x5 := hg.cell x5
            replace y0 := hg.cell y0
            replace y1 := hg.cell y1
            have G21 := Lib.hid (G20.out.trans hg)
            clear hg
            go_wp2_with fail
            refine (C2.out _).mono ?_
            rintro e w22 ⟨rfl, hg⟩
            replace x0 := hg.cell x0
            replace x1 := hg.cell x1
            replace x2 := hg.cell x2
            replace x3 := hg.cell x3
            replace x4 := hg.cell x4
            replace x5 := hg.cell x5
            replace y0 := hg.cell y0
            replace y1 := hg.cell y1
            have G22 := Lib.hid (G21.out.trans hg)
            clear hg
            go_wp2_with fail
            refine (MX0.out _).mono ?_
            rintro e w23 ⟨rfl, hg3⟩
            have G23 := Lib.hid (G22.out.trans hg3)
            clear hg3
            have hM0 : maxB [] = (0, 0) := rfl
            rw [hM0]
            go_wp2_with fail
            refine (NN0.out _).mono ?_
            rintro e w24 ⟨rfl, hg4⟩
            go_wp2
            go_ret
            exact ⟨by first | rfl | (simp; done), G23.out.trans hg4⟩
          · go_wp2_with fail
            refine (C0.out _).mono ?_
            rintro e w20 ⟨rfl, hg⟩
            replace x0 := hg.cell x0
            replace x1 := hg.cell x1
            replace x2 := hg.cell x2
            replace x3 := hg.cell x3
            replace x4 := hg.cell x4
            replace x5 := hg.cell x5
            replace y0 := hg.cell y0
            replace y1 := hg.cell y1
            have G20 := Lib.hid (G18.out.trans hg)
            clear hg
            go_wp2_with fail
            refine (C1.out _).mono ?_
            rintro e w21 ⟨rfl, hg⟩
            replace x0 := hg.cell x0
            replace x1 := hg.cell x1
            replace x2 := hg.cell x2
            replace x3 := hg.cell x3
            replace x4 := hg.cell x4
            replace x5 := hg.cell x5
            replace y0 := hg.cell y0
            replace y1 := hg.cell y1
            have G21 := Lib.hid (G20.out.trans hg)
            clear hg
            go_wp2_with fail
            refine (C2.out _).mono ?_
            rintro e w22 ⟨rfl, hg⟩
            replace x0 := hg.cell x0
            replace x1 := hg.cell x1
            replace x2 := hg.cell x2
            replace x3 := hg.cell x3
            replace x4 := hg.cell x4
            replace x5 := hg.cell x5
            replace y0 := hg.cell y0
            replace y1 := hg.cell y1
            have G22 := Lib.hid (G21.out.trans hg)
            clear hg
            go_wp2_with fail
            refine (MX0.out _).mono ?_
            rintro e w23 ⟨rfl, hg3⟩
            have G23 := Lib.hid (G22.out.trans hg3)
            clear hg3
            have hM0 : maxB [] = (0, 0) := rfl
            rw [hM0]
            go_wp2_with fail
            refine (NN0.out _).mono ?_
            rintro e w24 ⟨rfl, hg4⟩
            go_wp2
            go_ret
            exact ⟨by first | rfl | (simp; done), G23.out.trans hg4⟩
        · go_wp2_with fail
          refine (C0.out _).mono ?_
          rintro e w20 ⟨rfl, hg⟩
          replace x0 := hg.cell x0
          replace x1 := hg.cell x1
          replace x2 := hg.cell x2
          replace x3 := hg.cell x3
          replace x4 := hg.cell x4
          replace x5 := hg.cell x5
          replace y0 := hg.cell y0
          replace y1 := hg.cell y1
          have G20 := Lib.hid (G18.out.trans hg)
          clear hg
          go_wp2_with fail
          refine (C1.out _).mono ?_
          rintro e w21 ⟨rfl, hg⟩
          replace x0 := hg.cell x0
          replace x1 := hg.cell x1
          replace x2 := hg.cell x2
          replace x3 := hg.cell x3
          replace x4 := hg.cell x4
          replace x5 := hg.cell x5
          replace y0 := hg.cell y0
          replace y1 := hg.cell y1
          have G21 := Lib.hid (G20.out.trans hg)
          clear hg
          go_wp2_with fail
          refine (C2.out _).mono ?_
          rintro e w22 ⟨rfl, hg⟩
          replace x0 := hg.cell x0
          replace x1 := hg.cell x1
          replace x2 := hg.cell x2
          replace x3 := hg.cell x3
          replace x4 := hg.cell x4
          replace x5 := hg.cell x5
          replace y0 := hg.cell y0
          replace y1 := hg.cell y1
          have G22 := Lib.hid (G21.out.trans hg)
          clear hg
          go_wp2_with fail
          refine (MX0.out _).mono ?_
          rintro e w23 ⟨rfl, hg3⟩
          have G23 := Lib.hid (G22.out.trans hg3)
          clear hg3
          have hM0 : maxB [] = (0, 0) := rfl
          rw [hM0]
          go_wp2_with fail
          refine (NN0.out _).mono ?_
          rintro e w24 ⟨rfl, hg4⟩
          go_wp2
          go_ret
          exact ⟨by first | rfl | (simp; done), G23.out.trans hg4⟩
end Go.Proofs.Ytkfkedpldndgiaa
