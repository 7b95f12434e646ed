import Derived.Test.YtkfkedpldndgiaaF07o
import Derived.Test.YtkfkedpldndgiaaM07d
import Derived.Test.YtkfkedpldndgiaaC16
import Derived.OpenShut
import Derived.WalkKit
import Derived.ProofKit
import Derived.LoopTactic
import Derived.Outline
import Derived.WalkSpells
import Derived.WalkLawsBesides
import Derived.Lib.Hide
import Derived.Deep.LoopGhost
import Derived.Deep.QuietTactic
import Derived.BigQuiet
import Derived.ShutString
import Derived.IntWalk
import Derived.Deep.RegionHeld3
namespace Go.Proofs.Ytkfkedpldndgiaa
open Go.ChangeShapes Go.WideShapes Go.ChangeAt Go.RowKit
open Grids
set_option linter.unusedVariables false
set_option linter.unusedSimpArgs false
theorem all_val2 {L : Nat} (h : L ≤ 16) : ((2 : Int) ^ L - 1) % 4294967296 = ((2 ^ L - 1 : Nat) : Int) := by
  have key : ∀ i : Fin 17, ((2 : Int) ^ i.val - 1) % 4294967296 = ((2 ^ i.val - 1 : Nat) : Int) := by decide +kernel
  exact key ⟨L, by omega⟩
set_option maxRecDepth 100000 in
set_option maxHeartbeats 8000000 in
theorem gridShapes_no (R P : Int) (W : Nat) (z1 n1 z2 n2 n : Int) (w : World) (hW : W < 4294967296) (hf : decide (Form R P W z1 n1 z2 n2) = false) :
    Calls Try.prog 5 #[.agg #[.int .i64 R, .int .i64 P, .int .u32 W, .int .i64 z1, .int .i64 n1, .int .i64 z2, .int .i64 n2], .int .i64 n] w fun e w' => e = .returned (.bool true) ∧ Gr w w' := by
  have ch : ChkIs R P W z1 n1 z2 n2 12 := fun w => check_form R P W z1 n1 z2 n2 w hf
  have CH := Lib.hid ch
  have LN := Lib.hid (len_bad ch)
  have ha := has2_any n (len_bad ch)
  rw [decide_eq_false (show ¬ (0 ≤ n ∧ n < 0) by omega)] at ha
  have HA := Lib.hid ha
  have RG := Lib.hid (regionOf_no ha)
  have al := all3_any (L := 0) (by decide) (len_bad ch)
  have AL := Lib.hid al
  have WI := Lib.hid (witnesses_any (W := W) (A := 0) hW (by decide) al)
  rw [Nat.and_zero] at WI
  have QF := Lib.hid (isFirst_any (s := 0) (fun w => isQuorum_bad R P W z1 n1 z2 n2 z1 n1 0 w ch))
  have QS := Lib.hid (isSecond_any (s := 4294967295) (fun w => isQuorum_bad R P W z1 n1 z2 n2 z2 n2 4294967295 w ch))
  have SH := Lib.hid (fun w => shaped_any R P W z1 n1 z2 n2 w hW)
  rw [hf] at SH
  clear hf ch ha al hW
  go_enter Try.func5, Try.ntmps5
  go_wp2_with fail
  refine (awake07_any _).mono ?_
  rintro e w1 ⟨rfl, hg1⟩
  have k0 := hg1.own.1 0 _ rfl
  have k1 := hg1.own.1 1 _ rfl
  have k2 := hg1.own.1 2 _ rfl
  have k3 := hg1.own.1 3 _ rfl
  have k4 := hg1.own.1 4 _ rfl
  have k5 := hg1.own.1 5 _ rfl
  have k6 := hg1.own.1 6 _ rfl
  have HG1 := Lib.hid (((Gr.refl w).alloc (.cells #[.int .i64 R, .int .i64 P, .int .u32 W, .int .i64 z1, .int .i64 n1, .int .i64 z2, .int .i64 n2] 53)).trans hg1)
  clear hg1
  go_wp2_with fail
  refine (own_any _ _ _ _ _ _ _ _).mono ?_
  rintro e w2 ⟨rfl, hg2⟩
  replace k0 := hg2.cell k0
  replace k1 := hg2.cell k1
  replace k2 := hg2.cell k2
  replace k3 := hg2.cell k3
  replace k4 := hg2.cell k4
  replace k5 := hg2.cell k5
  replace k6 := hg2.cell k6
  have HG2 := Lib.hid (HG1.out.trans hg2)
  clear hg2
  have hz := (Gr.refl w2).alloc (.cells #[.int .i64 R, .int .i64 P, .int .u32 W, .int .i64 z1, .int .i64 n1, .int .i64 z2, .int .i64 n2] 57)
  replace k0 := hz.cell k0
  replace k1 := hz.cell k1
  replace k2 := hz.cell k2
  replace k3 := hz.cell k3
  replace k4 := hz.cell k4
  replace k5 := hz.cell k5
  replace k6 := hz.cell k6
  clear hz
  go_wp2_with fail
  refine (SH.out _).mono ?_
  rintro e w3 ⟨rfl, hg3⟩
  have x0 := hg3.own.1 0 _ rfl
  have x1 := hg3.own.1 1 _ rfl
  have x2 := hg3.own.1 2 _ rfl
  have x3 := hg3.own.1 3 _ rfl
  have x4 := hg3.own.1 4 _ rfl
  have x5 := hg3.own.1 5 _ rfl
  have x6 := hg3.own.1 6 _ rfl
  have HZ := Lib.hid ((HG2.out.alloc (.cells #[.int .i64 R, .int .i64 P, .int .u32 W, .int .i64 z1, .int .i64 n1, .int .i64 z2, .int .i64 n2] 57)).trans hg3)
  clear hg3 k0 k1 k2 k3 k4 k5 k6
  generalize w2.heap.size = c at *
  generalize w3 = wz at *
  have HX : Hid (∀ w0 w9 : World, Gr w0 w9 → (fun w9 => Gr wz w9 ∧ w9.cell? ⟨c, 0, none⟩ = some (.int .i64 R) ∧ w9.cell? ⟨c, 1, none⟩ = some (.int .i64 P) ∧ w9.cell? ⟨c, 2, none⟩ = some (.int .u32 (W : Nat)) ∧ w9.cell? ⟨c, 3, none⟩ = some (.int .i64 z1) ∧ w9.cell? ⟨c, 4, none⟩ = some (.int .i64 n1) ∧ w9.cell? ⟨c, 5, none⟩ = some (.int .i64 z2) ∧ w9.cell? ⟨c, 6, none⟩ = some (.int .i64 n2)) w0 → (fun w9 => Gr wz w9 ∧ w9.cell? ⟨c, 0, none⟩ = some (.int .i64 R) ∧ w9.cell? ⟨c, 1, none⟩ = some (.int .i64 P) ∧ w9.cell? ⟨c, 2, none⟩ = some (.int .u32 (W : Nat)) ∧ w9.cell? ⟨c, 3, none⟩ = some (.int .i64 z1) ∧ w9.cell? ⟨c, 4, none⟩ = some (.int .i64 n1) ∧ w9.cell? ⟨c, 5, none⟩ = some (.int .i64 z2) ∧ w9.cell? ⟨c, 6, none⟩ = some (.int .i64 n2)) w9) := Lib.hid fun w0 w9 hg ⟨h, q0, q1, q2, q3, q4, q5, q6⟩ => ⟨h.trans hg, hg.cell q0, hg.cell q1, hg.cell q2, hg.cell q3, hg.cell q4, hg.cell q5, hg.cell q6⟩
  have HS0 := And.intro (Gr.refl wz) (And.intro (x0) (And.intro (x1) (And.intro (x2) (And.intro (x3) (And.intro (x4) (And.intro (x5) (x6)))))))
  clear x0 x1 x2 x3 x4 x5 x6
  go_wp2
  refine wp_region_held_drew (S := (fun w9 => Gr wz w9 ∧ w9.cell? ⟨c, 0, none⟩ = some (.int .i64 R) ∧ w9.cell? ⟨c, 1, none⟩ = some (.int .i64 P) ∧ w9.cell? ⟨c, 2, none⟩ = some (.int .u32 (W : Nat)) ∧ w9.cell? ⟨c, 3, none⟩ = some (.int .i64 z1) ∧ w9.cell? ⟨c, 4, none⟩ = some (.int .i64 n1) ∧ w9.cell? ⟨c, 5, none⟩ = some (.int .i64 z2) ∧ w9.cell? ⟨c, 6, none⟩ = some (.int .i64 n2))) (by kernel_rfl) ?invx (fun h0 => ?_)
  case invx => ((try dsimp only); (first | exact HS0 | exact HX.out _ _ ((Gr.refl _).drew) HS0))
  refine wpAnyH_take (i := 0) (oi := { dst := some 16, op := Go.Op.load 57 (Go.Operand.tmp 5), type := 57, pos := "law.go:58", after := #[], guard := none }) (v := ?vx1) rfl (by kernel_rfl) (by kernel_rfl) (by kernel_rfl) (fun _ _ _ h => h) (Or.inl ⟨by rfl, ?rx1⟩) (by assumption) ?_
  case rx1 => (intro w hSw; (try dsimp only at hSw); (go_simp <;> with_reducible rfl))
  try simp only [Act.put, List.setIfInBounds_toArray, List.set_cons_zero, List.set_cons_succ]
  refine wpAnyH_ready (rs := [1]) (by kernel_rfl) (by simp) ?_
  refine AllReadyH.cons (o := { dst := some 17, op := Go.Op.call { callee := Go.Callee.value (Go.Operand.func 33), args := #[Go.Operand.tmp 16], argTypes := #[57] }, type := 44, pos := "law.go:58", after := #[{ on := 0, ground := Go.Ground.data }], guard := none }) rfl (fun K hK => ?_) AllReadyH.nil
  go_simp
  (go_at_call 33; refine (CH.out _).mono ?_; rintro e w9 ⟨rfl, hgN⟩)
  first | refine hK.out _ _ ?sx2 (fun h2 => ?_) | (go_wp2_with fail; refine hK.out _ _ ?sx2 (fun h2 => ?_))
  case sx2 => ((try dsimp only); exact HX.out _ _ hgN h0)
  clear hK K h0
  try simp only [Act.put, List.setIfInBounds_toArray, List.set_cons_zero, List.set_cons_succ]
  refine wpAnyH_take (i := 2) (oi := { dst := some 18, op := Go.Op.binOp Go.BinOp.eql 44 (Go.Operand.tmp 17) (Go.Operand.const (Go.Value.int Go.IntKind.i64 12)) 44, type := 4, pos := "law.go:58", after := #[{ on := 1, ground := Go.Ground.data }], guard := none }) (v := ?vx3) rfl (by kernel_rfl) (by kernel_rfl) (by kernel_rfl) (fun _ _ _ h => h) (Or.inl ⟨by rfl, ?rx3⟩) (by assumption) ?_
  case rx3 => (intro w hSw; (try dsimp only at hSw); (go_simp <;> with_reducible rfl))
  try simp only [Act.put, List.setIfInBounds_toArray, List.set_cons_zero, List.set_cons_succ]
  refine wpAnyH_take (i := 3) (oi := { dst := some 19, op := Go.Op.move (Go.Operand.tmp 18), type := 4, pos := "law.go:58", after := #[{ on := 2, ground := Go.Ground.data }, { on := 1, ground := Go.Ground.chain }], guard := none }) (v := ?vx4) rfl (by kernel_rfl) (by kernel_rfl) (by kernel_rfl) (fun _ _ _ h => h) (Or.inl ⟨by rfl, ?rx4⟩) (by assumption) ?_
  case rx4 => (intro w hSw; (try dsimp only at hSw); (go_simp <;> with_reducible rfl))
  try simp only [Act.put, List.setIfInBounds_toArray, List.set_cons_zero, List.set_cons_succ]
  refine wpAnyH_take (i := 4) (oi := { dst := some 20, op := Go.Op.load 57 (Go.Operand.tmp 5), type := 57, pos := "law.go:58", after := #[{ on := 3, ground := Go.Ground.guard }], guard := some (3, true) }) (v := ?vx5) rfl (by kernel_rfl) (by kernel_rfl) (by kernel_rfl) (fun _ _ _ h => h) (Or.inl ⟨by rfl, ?rx5⟩) (by assumption) ?_
  case rx5 => (intro w hSw; (try dsimp only at hSw); (go_simp <;> with_reducible rfl))
  try simp only [Act.put, List.setIfInBounds_toArray, List.set_cons_zero, List.set_cons_succ]
  refine wpAnyH_ready (rs := [5]) (by kernel_rfl) (by simp) ?_
  refine AllReadyH.cons (o := { dst := some 21, op := Go.Op.call { callee := Go.Callee.value (Go.Operand.func 36), args := #[Go.Operand.tmp 20], argTypes := #[57] }, type := 3, pos := "law.go:58", after := #[{ on := 4, ground := Go.Ground.data }, { on := 3, ground := Go.Ground.chain }, { on := 3, ground := Go.Ground.guard }], guard := some (3, true) }) rfl (fun K hK => ?_) AllReadyH.nil
  go_simp
  (go_at_call 36; refine (LN.out _).mono ?_; rintro e w9 ⟨rfl, hgN⟩)
  first | refine hK.out _ _ ?sx6 (fun h6 => ?_) | (go_wp2_with fail; refine hK.out _ _ ?sx6 (fun h6 => ?_))
  case sx6 => ((try dsimp only); exact HX.out _ _ hgN h2)
  clear hK K h2
  try simp only [Act.put, List.setIfInBounds_toArray, List.set_cons_zero, List.set_cons_succ]
  refine wpAnyH_take (i := 6) (oi := { dst := some 22, op := Go.Op.binOp Go.BinOp.eql 3 (Go.Operand.tmp 21) (Go.Operand.const (Go.Value.int Go.IntKind.i64 0)) 3, type := 4, pos := "law.go:58", after := #[{ on := 5, ground := Go.Ground.data }, { on := 3, ground := Go.Ground.guard }], guard := some (3, true) }) (v := ?vx7) rfl (by kernel_rfl) (by kernel_rfl) (by kernel_rfl) (fun _ _ _ h => h) (Or.inl ⟨by rfl, ?rx7⟩) (by assumption) ?_
  case rx7 => (intro w hSw; (try dsimp only at hSw); (go_simp <;> with_reducible rfl))
  try simp only [Act.put, List.setIfInBounds_toArray, List.set_cons_zero, List.set_cons_succ]
  refine wpAnyH_take (i := 7) (oi := { dst := some 23, op := Go.Op.pick (Go.Operand.tmp 19) (Go.Operand.tmp 22) (Go.Operand.const (Go.Value.bool false)), type := 4, pos := "law.go:58", after := #[{ on := 3, ground := Go.Ground.data }, { on := 6, ground := Go.Ground.data }], guard := none }) (v := ?vx8) rfl (by kernel_rfl) (by kernel_rfl) (by kernel_rfl) (fun _ _ _ h => h) (Or.inl ⟨by rfl, ?rx8⟩) (by assumption) ?_
  case rx8 => (intro w hSw; (try dsimp only at hSw); (go_simp <;> with_reducible rfl))
  try simp only [Act.put, List.setIfInBounds_toArray, List.set_cons_zero, List.set_cons_succ]
  refine wpAnyH_take (i := 8) (oi := { dst := some 24, op := Go.Op.move (Go.Operand.tmp 23), type := 4, pos := "law.go:58", after := #[{ on := 7, ground := Go.Ground.data }, { on := 5, ground := Go.Ground.chain }], guard := none }) (v := ?vx9) rfl (by kernel_rfl) (by kernel_rfl) (by kernel_rfl) (fun _ _ _ h => h) (Or.inl ⟨by rfl, ?rx9⟩) (by assumption) ?_
  case rx9 => (intro w hSw; (try dsimp only at hSw); (go_simp <;> with_reducible rfl))
  try simp only [Act.put, List.setIfInBounds_toArray, List.set_cons_zero, List.set_cons_succ]
  refine wpAnyH_take (i := 9) (oi := { dst := some 25, op := Go.Op.load 57 (Go.Operand.tmp 5), type := 57, pos := "law.go:58", after := #[{ on := 8, ground := Go.Ground.guard }], guard := some (8, true) }) (v := ?vx10) rfl (by kernel_rfl) (by kernel_rfl) (by kernel_rfl) (fun _ _ _ h => h) (Or.inl ⟨by rfl, ?rx10⟩) (by assumption) ?_
  case rx10 => (intro w hSw; (try dsimp only at hSw); (go_simp <;> with_reducible rfl))
  try simp only [Act.put, List.setIfInBounds_toArray, List.set_cons_zero, List.set_cons_succ]
  refine wpAnyH_take (i := 10) (oi := { dst := some 26, op := Go.Op.move (Go.Operand.tmp 1), type := 3, pos := "law.go:58", after := #[{ on := 8, ground := Go.Ground.guard }], guard := some (8, true) }) (v := ?vx11) rfl (by kernel_rfl) (by kernel_rfl) (by kernel_rfl) (fun _ _ _ h => h) (Or.inl ⟨by rfl, ?rx11⟩) (by assumption) ?_
  case rx11 => (intro w hSw; (try dsimp only at hSw); (go_simp <;> with_reducible rfl))
  try simp only [Act.put, List.setIfInBounds_toArray, List.set_cons_zero, List.set_cons_succ]
  refine wpAnyH_ready (rs := [11]) (by kernel_rfl) (by simp) ?_
  refine AllReadyH.cons (o := { dst := some 27, op := Go.Op.call { callee := Go.Callee.value (Go.Operand.func 37), args := #[Go.Operand.tmp 25, Go.Operand.tmp 26], argTypes := #[57, 3] }, type := 4, pos := "law.go:58", after := #[{ on := 9, ground := Go.Ground.data }, { on := 10, ground := Go.Ground.data }, { on := 8, ground := Go.Ground.chain }, { on := 8, ground := Go.Ground.guard }], guard := some (8, true) }) rfl (fun K hK => ?_) AllReadyH.nil
  go_simp
  (go_at_call 37; refine (HA.out _).mono ?_; rintro e w9 ⟨rfl, hgN⟩)
  first | refine hK.out _ _ ?sx12 (fun h12 => ?_) | (go_wp2_with fail; refine hK.out _ _ ?sx12 (fun h12 => ?_))
  case sx12 => ((try dsimp only); exact HX.out _ _ hgN h6)
  clear hK K h6
  try simp only [Act.put, List.setIfInBounds_toArray, List.set_cons_zero, List.set_cons_succ]
  refine wpAnyH_take (i := 12) (oi := { dst := some 28, op := Go.Op.unOp Go.UnOp.not 4 (Go.Operand.tmp 27), type := 4, pos := "law.go:58", after := #[{ on := 11, ground := Go.Ground.data }, { on := 8, ground := Go.Ground.guard }], guard := some (8, true) }) (v := ?vx13) rfl (by kernel_rfl) (by kernel_rfl) (by kernel_rfl) (fun _ _ _ h => h) (Or.inl ⟨by rfl, ?rx13⟩) (by assumption) ?_
  case rx13 => (intro w hSw; (try dsimp only at hSw); (go_simp <;> with_reducible rfl))
  try simp only [Act.put, List.setIfInBounds_toArray, List.set_cons_zero, List.set_cons_succ]
  refine wpAnyH_take (i := 13) (oi := { dst := some 29, op := Go.Op.pick (Go.Operand.tmp 24) (Go.Operand.tmp 28) (Go.Operand.const (Go.Value.bool false)), type := 4, pos := "law.go:58", after := #[{ on := 8, ground := Go.Ground.data }, { on := 12, ground := Go.Ground.data }], guard := none }) (v := ?vx14) rfl (by kernel_rfl) (by kernel_rfl) (by kernel_rfl) (fun _ _ _ h => h) (Or.inl ⟨by rfl, ?rx14⟩) (by assumption) ?_
  case rx14 => (intro w hSw; (try dsimp only at hSw); (go_simp <;> with_reducible rfl))
  try simp only [Act.put, List.setIfInBounds_toArray, List.set_cons_zero, List.set_cons_succ]
  refine wpAnyH_take (i := 14) (oi := { dst := some 30, op := Go.Op.move (Go.Operand.tmp 29), type := 4, pos := "law.go:58", after := #[{ on := 13, ground := Go.Ground.data }, { on := 11, ground := Go.Ground.chain }], guard := none }) (v := ?vx15) rfl (by kernel_rfl) (by kernel_rfl) (by kernel_rfl) (fun _ _ _ h => h) (Or.inl ⟨by rfl, ?rx15⟩) (by assumption) ?_
  case rx15 => (intro w hSw; (try dsimp only at hSw); (go_simp <;> with_reducible rfl))
  try simp only [Act.put, List.setIfInBounds_toArray, List.set_cons_zero, List.set_cons_succ]
  refine wpAnyH_take (i := 15) (oi := { dst := some 31, op := Go.Op.load 57 (Go.Operand.tmp 5), type := 57, pos := "law.go:58", after := #[{ on := 14, ground := Go.Ground.guard }], guard := some (14, true) }) (v := ?vx16) rfl (by kernel_rfl) (by kernel_rfl) (by kernel_rfl) (fun _ _ _ h => h) (Or.inl ⟨by rfl, ?rx16⟩) (by assumption) ?_
  case rx16 => (intro w hSw; (try dsimp only at hSw); (go_simp <;> with_reducible rfl))
  try simp only [Act.put, List.setIfInBounds_toArray, List.set_cons_zero, List.set_cons_succ]
  refine wpAnyH_take (i := 16) (oi := { dst := some 32, op := Go.Op.move (Go.Operand.tmp 1), type := 3, pos := "law.go:58", after := #[{ on := 14, ground := Go.Ground.guard }], guard := some (14, true) }) (v := ?vx17) rfl (by kernel_rfl) (by kernel_rfl) (by kernel_rfl) (fun _ _ _ h => h) (Or.inl ⟨by rfl, ?rx17⟩) (by assumption) ?_
  case rx17 => (intro w hSw; (try dsimp only at hSw); (go_simp <;> with_reducible rfl))
  try simp only [Act.put, List.setIfInBounds_toArray, List.set_cons_zero, List.set_cons_succ]
  refine wpAnyH_ready (rs := [17]) (by kernel_rfl) (by simp) ?_
  refine AllReadyH.cons (o := { dst := some 33, op := Go.Op.call { callee := Go.Callee.value (Go.Operand.func 38), args := #[Go.Operand.tmp 31, Go.Operand.tmp 32], argTypes := #[57, 3] }, type := 3, pos := "law.go:58", after := #[{ on := 15, ground := Go.Ground.data }, { on := 16, ground := Go.Ground.data }, { on := 14, ground := Go.Ground.chain }, { on := 14, ground := Go.Ground.guard }], guard := some (14, true) }) rfl (fun K hK => ?_) AllReadyH.nil
  go_simp
  (go_at_call 38; refine (RG.out _).mono ?_; rintro e w9 ⟨rfl, hgN⟩)
  first | refine hK.out _ _ ?sx18 (fun h18 => ?_) | (go_wp2_with fail; refine hK.out _ _ ?sx18 (fun h18 => ?_))
  case sx18 => ((try dsimp only); exact HX.out _ _ hgN h12)
  clear hK K h12
  try simp only [Act.put, List.setIfInBounds_toArray, List.set_cons_zero, List.set_cons_succ]
  refine wpAnyH_take (i := 18) (oi := { dst := some 34, op := Go.Op.binOp Go.BinOp.eql 3 (Go.Operand.tmp 33) (Go.Operand.const (Go.Value.int Go.IntKind.i64 (-1))) 3, type := 4, pos := "law.go:58", after := #[{ on := 17, ground := Go.Ground.data }, { on := 14, ground := Go.Ground.guard }], guard := some (14, true) }) (v := ?vx19) rfl (by kernel_rfl) (by kernel_rfl) (by kernel_rfl) (fun _ _ _ h => h) (Or.inl ⟨by rfl, ?rx19⟩) (by assumption) ?_
  case rx19 => (intro w hSw; (try dsimp only at hSw); (go_simp <;> with_reducible rfl))
  try simp only [Act.put, List.setIfInBounds_toArray, List.set_cons_zero, List.set_cons_succ]
  refine wpAnyH_take (i := 19) (oi := { dst := some 35, op := Go.Op.pick (Go.Operand.tmp 30) (Go.Operand.tmp 34) (Go.Operand.const (Go.Value.bool false)), type := 4, pos := "law.go:58", after := #[{ on := 14, ground := Go.Ground.data }, { on := 18, ground := Go.Ground.data }], guard := none }) (v := ?vx20) rfl (by kernel_rfl) (by kernel_rfl) (by kernel_rfl) (fun _ _ _ h => h) (Or.inl ⟨by rfl, ?rx20⟩) (by assumption) ?_
  case rx20 => (intro w hSw; (try dsimp only at hSw); (go_simp <;> with_reducible rfl))
  try simp only [Act.put, List.setIfInBounds_toArray, List.set_cons_zero, List.set_cons_succ]
  refine wpAnyH_take (i := 20) (oi := { dst := some 36, op := Go.Op.move (Go.Operand.tmp 35), type := 4, pos := "law.go:58", after := #[{ on := 19, ground := Go.Ground.data }, { on := 17, ground := Go.Ground.chain }], guard := none }) (v := ?vx21) rfl (by kernel_rfl) (by kernel_rfl) (by kernel_rfl) (fun _ _ _ h => h) (Or.inl ⟨by rfl, ?rx21⟩) (by assumption) ?_
  case rx21 => (intro w hSw; (try dsimp only at hSw); (go_simp <;> with_reducible rfl))
  try simp only [Act.put, List.setIfInBounds_toArray, List.set_cons_zero, List.set_cons_succ]
  refine wpAnyH_take (i := 21) (oi := { dst := some 37, op := Go.Op.load 57 (Go.Operand.tmp 5), type := 57, pos := "law.go:58", after := #[{ on := 20, ground := Go.Ground.guard }], guard := some (20, true) }) (v := ?vx22) rfl (by kernel_rfl) (by kernel_rfl) (by kernel_rfl) (fun _ _ _ h => h) (Or.inl ⟨by rfl, ?rx22⟩) (by assumption) ?_
  case rx22 => (intro w hSw; (try dsimp only at hSw); (go_simp <;> with_reducible rfl))
  try simp only [Act.put, List.setIfInBounds_toArray, List.set_cons_zero, List.set_cons_succ]
  refine wpAnyH_ready (rs := [22]) (by kernel_rfl) (by simp) ?_
  refine AllReadyH.cons (o := { dst := some 38, op := Go.Op.call { callee := Go.Callee.value (Go.Operand.func 39), args := #[Go.Operand.tmp 37], argTypes := #[57] }, type := 49, pos := "law.go:58", after := #[{ on := 21, ground := Go.Ground.data }, { on := 20, ground := Go.Ground.chain }, { on := 20, ground := Go.Ground.guard }], guard := some (20, true) }) rfl (fun K hK => ?_) AllReadyH.nil
  go_simp
  (go_at_call 39; refine (AL.out _).mono ?_; rintro e w9 ⟨rfl, hgN⟩)
  first | refine hK.out _ _ ?sx23 (fun h23 => ?_) | (go_wp2_with fail; refine hK.out _ _ ?sx23 (fun h23 => ?_))
  case sx23 => ((try dsimp only); exact HX.out _ _ hgN h18)
  clear hK K h18
  try simp only [Act.put, List.setIfInBounds_toArray, List.set_cons_zero, List.set_cons_succ]
  refine wpAnyH_take (i := 23) (oi := { dst := some 39, op := Go.Op.binOp Go.BinOp.eql 49 (Go.Operand.tmp 38) (Go.Operand.const (Go.Value.int Go.IntKind.u32 0)) 49, type := 4, pos := "law.go:58", after := #[{ on := 22, ground := Go.Ground.data }, { on := 20, ground := Go.Ground.guard }], guard := some (20, true) }) (v := ?vx24) rfl (by kernel_rfl) (by kernel_rfl) (by kernel_rfl) (fun _ _ _ h => h) (Or.inl ⟨by rfl, ?rx24⟩) (by assumption) ?_
  case rx24 => (intro w hSw; (try dsimp only at hSw); (go_simp <;> with_reducible rfl))
  try simp only [Act.put, List.setIfInBounds_toArray, List.set_cons_zero, List.set_cons_succ]
  refine wpAnyH_take (i := 24) (oi := { dst := some 40, op := Go.Op.pick (Go.Operand.tmp 36) (Go.Operand.tmp 39) (Go.Operand.const (Go.Value.bool false)), type := 4, pos := "law.go:58", after := #[{ on := 20, ground := Go.Ground.data }, { on := 23, ground := Go.Ground.data }], guard := none }) (v := ?vx25) rfl (by kernel_rfl) (by kernel_rfl) (by kernel_rfl) (fun _ _ _ h => h) (Or.inl ⟨by rfl, ?rx25⟩) (by assumption) ?_
  case rx25 => (intro w hSw; (try dsimp only at hSw); (go_simp <;> with_reducible rfl))
  try simp only [Act.put, List.setIfInBounds_toArray, List.set_cons_zero, List.set_cons_succ]
  refine wpAnyH_take (i := 25) (oi := { dst := some 41, op := Go.Op.move (Go.Operand.tmp 40), type := 4, pos := "law.go:58", after := #[{ on := 24, ground := Go.Ground.data }, { on := 22, ground := Go.Ground.chain }], guard := none }) (v := ?vx26) rfl (by kernel_rfl) (by kernel_rfl) (by kernel_rfl) (fun _ _ _ h => h) (Or.inl ⟨by rfl, ?rx26⟩) (by assumption) ?_
  case rx26 => (intro w hSw; (try dsimp only at hSw); (go_simp <;> with_reducible rfl))
  try simp only [Act.put, List.setIfInBounds_toArray, List.set_cons_zero, List.set_cons_succ]
  refine wpAnyH_take (i := 26) (oi := { dst := some 42, op := Go.Op.load 57 (Go.Operand.tmp 5), type := 57, pos := "law.go:58", after := #[{ on := 25, ground := Go.Ground.guard }], guard := some (25, true) }) (v := ?vx27) rfl (by kernel_rfl) (by kernel_rfl) (by kernel_rfl) (fun _ _ _ h => h) (Or.inl ⟨by rfl, ?rx27⟩) (by assumption) ?_
  case rx27 => (intro w hSw; (try dsimp only at hSw); (go_simp <;> with_reducible rfl))
  try simp only [Act.put, List.setIfInBounds_toArray, List.set_cons_zero, List.set_cons_succ]
  refine wpAnyH_ready (rs := [27]) (by kernel_rfl) (by simp) ?_
  refine AllReadyH.cons (o := { dst := some 43, op := Go.Op.call { callee := Go.Callee.value (Go.Operand.func 40), args := #[Go.Operand.tmp 42], argTypes := #[57] }, type := 49, pos := "law.go:58", after := #[{ on := 26, ground := Go.Ground.data }, { on := 25, ground := Go.Ground.chain }, { on := 25, ground := Go.Ground.guard }], guard := some (25, true) }) rfl (fun K hK => ?_) AllReadyH.nil
  go_simp
  (go_at_call 40; refine (WI.out _).mono ?_; rintro e w9 ⟨rfl, hgN⟩)
  first | refine hK.out _ _ ?sx28 (fun h28 => ?_) | (go_wp2_with fail; refine hK.out _ _ ?sx28 (fun h28 => ?_))
  case sx28 => ((try dsimp only); exact HX.out _ _ hgN h23)
  clear hK K h23
  try simp only [Act.put, List.setIfInBounds_toArray, List.set_cons_zero, List.set_cons_succ]
  refine wpAnyH_take (i := 28) (oi := { dst := some 44, op := Go.Op.binOp Go.BinOp.eql 49 (Go.Operand.tmp 43) (Go.Operand.const (Go.Value.int Go.IntKind.u32 0)) 49, type := 4, pos := "law.go:58", after := #[{ on := 27, ground := Go.Ground.data }, { on := 25, ground := Go.Ground.guard }], guard := some (25, true) }) (v := ?vx29) rfl (by kernel_rfl) (by kernel_rfl) (by kernel_rfl) (fun _ _ _ h => h) (Or.inl ⟨by rfl, ?rx29⟩) (by assumption) ?_
  case rx29 => (intro w hSw; (try dsimp only at hSw); (go_simp <;> with_reducible rfl))
  try simp only [Act.put, List.setIfInBounds_toArray, List.set_cons_zero, List.set_cons_succ]
  refine wpAnyH_take (i := 29) (oi := { dst := some 45, op := Go.Op.pick (Go.Operand.tmp 41) (Go.Operand.tmp 44) (Go.Operand.const (Go.Value.bool false)), type := 4, pos := "law.go:58", after := #[{ on := 25, ground := Go.Ground.data }, { on := 28, ground := Go.Ground.data }], guard := none }) (v := ?vx30) rfl (by kernel_rfl) (by kernel_rfl) (by kernel_rfl) (fun _ _ _ h => h) (Or.inl ⟨by rfl, ?rx30⟩) (by assumption) ?_
  case rx30 => (intro w hSw; (try dsimp only at hSw); (go_simp <;> with_reducible rfl))
  try simp only [Act.put, List.setIfInBounds_toArray, List.set_cons_zero, List.set_cons_succ]
  refine wpAnyH_take (i := 30) (oi := { dst := some 46, op := Go.Op.move (Go.Operand.tmp 45), type := 4, pos := "law.go:58", after := #[{ on := 29, ground := Go.Ground.data }, { on := 27, ground := Go.Ground.chain }], guard := none }) (v := ?vx31) rfl (by kernel_rfl) (by kernel_rfl) (by kernel_rfl) (fun _ _ _ h => h) (Or.inl ⟨by rfl, ?rx31⟩) (by assumption) ?_
  case rx31 => (intro w hSw; (try dsimp only at hSw); (go_simp <;> with_reducible rfl))
  try simp only [Act.put, List.setIfInBounds_toArray, List.set_cons_zero, List.set_cons_succ]
  refine wpAnyH_take (i := 31) (oi := { dst := some 47, op := Go.Op.load 57 (Go.Operand.tmp 5), type := 57, pos := "law.go:58", after := #[{ on := 30, ground := Go.Ground.guard }], guard := some (30, true) }) (v := ?vx32) rfl (by kernel_rfl) (by kernel_rfl) (by kernel_rfl) (fun _ _ _ h => h) (Or.inl ⟨by rfl, ?rx32⟩) (by assumption) ?_
  case rx32 => (intro w hSw; (try dsimp only at hSw); (go_simp <;> with_reducible rfl))
  try simp only [Act.put, List.setIfInBounds_toArray, List.set_cons_zero, List.set_cons_succ]
  refine wpAnyH_take (i := 32) (oi := { dst := some 48, op := Go.Op.load 57 (Go.Operand.tmp 5), type := 57, pos := "law.go:58", after := #[{ on := 30, ground := Go.Ground.guard }], guard := some (30, true) }) (v := ?vx33) rfl (by kernel_rfl) (by kernel_rfl) (by kernel_rfl) (fun _ _ _ h => h) (Or.inl ⟨by rfl, ?rx33⟩) (by assumption) ?_
  case rx33 => (intro w hSw; (try dsimp only at hSw); (go_simp <;> with_reducible rfl))
  try simp only [Act.put, List.setIfInBounds_toArray, List.set_cons_zero, List.set_cons_succ]
  refine wpAnyH_ready (rs := [33]) (by kernel_rfl) (by simp) ?_
  refine AllReadyH.cons (o := { dst := some 49, op := Go.Op.call { callee := Go.Callee.value (Go.Operand.func 39), args := #[Go.Operand.tmp 48], argTypes := #[57] }, type := 49, pos := "law.go:58", after := #[{ on := 32, ground := Go.Ground.data }, { on := 30, ground := Go.Ground.chain }, { on := 30, ground := Go.Ground.guard }], guard := some (30, true) }) rfl (fun K hK => ?_) AllReadyH.nil
  go_simp
  (go_at_call 39; refine (AL.out _).mono ?_; rintro e w9 ⟨rfl, hgN⟩)
  first | refine hK.out _ _ ?sx34 (fun h34 => ?_) | (go_wp2_with fail; refine hK.out _ _ ?sx34 (fun h34 => ?_))
  case sx34 => ((try dsimp only); exact HX.out _ _ hgN h28)
  clear hK K h28
  try simp only [Act.put, List.setIfInBounds_toArray, List.set_cons_zero, List.set_cons_succ]
  refine wpAnyH_ready (rs := [34]) (by kernel_rfl) (by simp) ?_
  refine AllReadyH.cons (o := { dst := some 50, op := Go.Op.call { callee := Go.Callee.value (Go.Operand.func 41), args := #[Go.Operand.tmp 47, Go.Operand.tmp 49], argTypes := #[57, 49] }, type := 4, pos := "law.go:58", after := #[{ on := 31, ground := Go.Ground.data }, { on := 33, ground := Go.Ground.data }, { on := 33, ground := Go.Ground.chain }, { on := 30, ground := Go.Ground.guard }], guard := some (30, true) }) rfl (fun K hK => ?_) AllReadyH.nil
  go_simp
  (go_at_call 41; refine (QF.out _).mono ?_; rintro e w9 ⟨rfl, hgN⟩)
  first | refine hK.out _ _ ?sx35 (fun h35 => ?_) | (go_wp2_with fail; refine hK.out _ _ ?sx35 (fun h35 => ?_))
  case sx35 => ((try dsimp only); exact HX.out _ _ hgN h34)
  clear hK K h34
  try simp only [Act.put, List.setIfInBounds_toArray, List.set_cons_zero, List.set_cons_succ]
  refine wpAnyH_take (i := 35) (oi := { dst := some 51, op := Go.Op.unOp Go.UnOp.not 4 (Go.Operand.tmp 50), type := 4, pos := "law.go:58", after := #[{ on := 34, ground := Go.Ground.data }, { on := 30, ground := Go.Ground.guard }], guard := some (30, true) }) (v := ?vx36) rfl (by kernel_rfl) (by kernel_rfl) (by kernel_rfl) (fun _ _ _ h => h) (Or.inl ⟨by rfl, ?rx36⟩) (by assumption) ?_
  case rx36 => (intro w hSw; (try dsimp only at hSw); (go_simp <;> with_reducible rfl))
  try simp only [Act.put, List.setIfInBounds_toArray, List.set_cons_zero, List.set_cons_succ]
  refine wpAnyH_take (i := 36) (oi := { dst := some 52, op := Go.Op.pick (Go.Operand.tmp 46) (Go.Operand.tmp 51) (Go.Operand.const (Go.Value.bool false)), type := 4, pos := "law.go:58", after := #[{ on := 30, ground := Go.Ground.data }, { on := 35, ground := Go.Ground.data }], guard := none }) (v := ?vx37) rfl (by kernel_rfl) (by kernel_rfl) (by kernel_rfl) (fun _ _ _ h => h) (Or.inl ⟨by rfl, ?rx37⟩) (by assumption) ?_
  case rx37 => (intro w hSw; (try dsimp only at hSw); (go_simp <;> with_reducible rfl))
  try simp only [Act.put, List.setIfInBounds_toArray, List.set_cons_zero, List.set_cons_succ]
  refine wpAnyH_take (i := 37) (oi := { dst := some 53, op := Go.Op.move (Go.Operand.tmp 52), type := 4, pos := "law.go:58", after := #[{ on := 36, ground := Go.Ground.data }, { on := 34, ground := Go.Ground.chain }], guard := none }) (v := ?vx38) rfl (by kernel_rfl) (by kernel_rfl) (by kernel_rfl) (fun _ _ _ h => h) (Or.inl ⟨by rfl, ?rx38⟩) (by assumption) ?_
  case rx38 => (intro w hSw; (try dsimp only at hSw); (go_simp <;> with_reducible rfl))
  try simp only [Act.put, List.setIfInBounds_toArray, List.set_cons_zero, List.set_cons_succ]
  refine wpAnyH_take (i := 38) (oi := { dst := some 54, op := Go.Op.load 57 (Go.Operand.tmp 5), type := 57, pos := "law.go:58", after := #[{ on := 37, ground := Go.Ground.guard }], guard := some (37, true) }) (v := ?vx39) rfl (by kernel_rfl) (by kernel_rfl) (by kernel_rfl) (fun _ _ _ h => h) (Or.inl ⟨by rfl, ?rx39⟩) (by assumption) ?_
  case rx39 => (intro w hSw; (try dsimp only at hSw); (go_simp <;> with_reducible rfl))
  try simp only [Act.put, List.setIfInBounds_toArray, List.set_cons_zero, List.set_cons_succ]
  refine wpAnyH_ready (rs := [39]) (by kernel_rfl) (by simp) ?_
  refine AllReadyH.cons (o := { dst := some 55, op := Go.Op.call { callee := Go.Callee.value (Go.Operand.func 42), args := #[Go.Operand.tmp 54, Go.Operand.const (Go.Value.int Go.IntKind.u32 4294967295)], argTypes := #[57, 49] }, type := 4, pos := "law.go:58", after := #[{ on := 38, ground := Go.Ground.data }, { on := 37, ground := Go.Ground.chain }, { on := 37, ground := Go.Ground.guard }], guard := some (37, true) }) rfl (fun K hK => ?_) AllReadyH.nil
  go_simp
  (go_at_call 42; refine (QS.out _).mono ?_; rintro e w9 ⟨rfl, hgN⟩)
  first | refine hK.out _ _ ?sx40 (fun h40 => ?_) | (go_wp2_with fail; refine hK.out _ _ ?sx40 (fun h40 => ?_))
  case sx40 => ((try dsimp only); exact HX.out _ _ hgN h35)
  clear hK K h35
  try simp only [Act.put, List.setIfInBounds_toArray, List.set_cons_zero, List.set_cons_succ]
  refine wpAnyH_take (i := 40) (oi := { dst := some 56, op := Go.Op.unOp Go.UnOp.not 4 (Go.Operand.tmp 55), type := 4, pos := "law.go:58", after := #[{ on := 39, ground := Go.Ground.data }, { on := 37, ground := Go.Ground.guard }], guard := some (37, true) }) (v := ?vx41) rfl (by kernel_rfl) (by kernel_rfl) (by kernel_rfl) (fun _ _ _ h => h) (Or.inl ⟨by rfl, ?rx41⟩) (by assumption) ?_
  case rx41 => (intro w hSw; (try dsimp only at hSw); (go_simp <;> with_reducible rfl))
  try simp only [Act.put, List.setIfInBounds_toArray, List.set_cons_zero, List.set_cons_succ]
  refine wpAnyH_take (i := 41) (oi := { dst := some 57, op := Go.Op.pick (Go.Operand.tmp 53) (Go.Operand.tmp 56) (Go.Operand.const (Go.Value.bool false)), type := 4, pos := "law.go:58", after := #[{ on := 37, ground := Go.Ground.data }, { on := 40, ground := Go.Ground.data }], guard := none }) (v := ?vx42) rfl (by kernel_rfl) (by kernel_rfl) (by kernel_rfl) (fun _ _ _ h => h) (Or.inl ⟨by rfl, ?rx42⟩) (by assumption) ?_
  case rx42 => (intro w hSw; (try dsimp only at hSw); (go_simp <;> with_reducible rfl))
  try simp only [Act.put, List.setIfInBounds_toArray, List.set_cons_zero, List.set_cons_succ]
  refine wpAnyH_take (i := 42) (oi := { dst := some 4, op := Go.Op.assign (Go.Operand.tmp 57), type := 4, pos := "law.go:58", after := #[{ on := 41, ground := Go.Ground.data }, { on := 39, ground := Go.Ground.chain }, { on := 0, ground := Go.Ground.phase }, { on := 1, ground := Go.Ground.phase }, { on := 2, ground := Go.Ground.phase }, { on := 3, ground := Go.Ground.phase }, { on := 4, ground := Go.Ground.phase }, { on := 5, ground := Go.Ground.phase }, { on := 6, ground := Go.Ground.phase }, { on := 7, ground := Go.Ground.phase }, { on := 8, ground := Go.Ground.phase }, { on := 9, ground := Go.Ground.phase }, { on := 10, ground := Go.Ground.phase }, { on := 11, ground := Go.Ground.phase }, { on := 12, ground := Go.Ground.phase }, { on := 13, ground := Go.Ground.phase }, { on := 14, ground := Go.Ground.phase }, { on := 15, ground := Go.Ground.phase }, { on := 16, ground := Go.Ground.phase }, { on := 17, ground := Go.Ground.phase }, { on := 18, ground := Go.Ground.phase }, { on := 19, ground := Go.Ground.phase }, { on := 20, ground := Go.Ground.phase }, { on := 21, ground := Go.Ground.phase }, { on := 22, ground := Go.Ground.phase }, { on := 23, ground := Go.Ground.phase }, { on := 24, ground := Go.Ground.phase }, { on := 25, ground := Go.Ground.phase }, { on := 26, ground := Go.Ground.phase }, { on := 27, ground := Go.Ground.phase }, { on := 28, ground := Go.Ground.phase }, { on := 29, ground := Go.Ground.phase }, { on := 30, ground := Go.Ground.phase }, { on := 31, ground := Go.Ground.phase }, { on := 32, ground := Go.Ground.phase }, { on := 33, ground := Go.Ground.phase }, { on := 34, ground := Go.Ground.phase }, { on := 35, ground := Go.Ground.phase }, { on := 36, ground := Go.Ground.phase }, { on := 37, ground := Go.Ground.phase }, { on := 38, ground := Go.Ground.phase }, { on := 39, ground := Go.Ground.phase }, { on := 40, ground := Go.Ground.phase }, { on := 41, ground := Go.Ground.phase }], guard := none }) (v := ?vx43) rfl (by kernel_rfl) (by kernel_rfl) (by kernel_rfl) (fun _ _ _ h => h) (Or.inl ⟨by rfl, ?rx43⟩) (by assumption) ?_
  case rx43 => (intro w hSw; (try dsimp only at hSw); (go_simp <;> with_reducible rfl))
  try simp only [Act.put, List.setIfInBounds_toArray, List.set_cons_zero, List.set_cons_succ]
  refine wpAnyH_done (by kernel_rfl) ?_ _
  have G9 := Lib.hid (h40).1
  clear h40
  go_wp2
  go_ret
  exact ⟨rfl, HZ.out.trans G9.out⟩
set_option maxRecDepth 100000 in
set_option maxHeartbeats 8000000 in
theorem gridShapes_yes (R P : Int) (W : Nat) (z1 n1 z2 n2 n : Int) (w : World) (hW : W < 4294967296) (hf : decide (Form R P W z1 n1 z2 n2) = true) :
    Calls Try.prog 5 #[.agg #[.int .i64 R, .int .i64 P, .int .u32 W, .int .i64 z1, .int .i64 n1, .int .i64 z2, .int .i64 n2], .int .i64 n] w fun e w' => e = .returned (.bool true) ∧ Gr w w' := by
  have SH := Lib.hid (fun w => shaped_any R P W z1 n1 z2 n2 w hW)
  rw [hf] at SH
  have RI := Lib.hid (fun w => right_any R P z1 n1 z2 n2 W w hW)
  clear hf hW
  go_enter Try.func5, Try.ntmps5
  go_wp2_with fail
  refine (awake07_any _).mono ?_
  rintro e w1 ⟨rfl, hg1⟩
  have k0 := hg1.own.1 0 _ rfl
  have k1 := hg1.own.1 1 _ rfl
  have k2 := hg1.own.1 2 _ rfl
  have k3 := hg1.own.1 3 _ rfl
  have k4 := hg1.own.1 4 _ rfl
  have k5 := hg1.own.1 5 _ rfl
  have k6 := hg1.own.1 6 _ rfl
  go_wp2_with fail
  refine (own_any _ _ _ _ _ _ _ _).mono ?_
  rintro e w2 ⟨rfl, hg2⟩
  have hlt : w.heap.size < w2.heap.size := Nat.lt_of_lt_of_le (by simp) (hg1.trans hg2).size
  have hz := (Gr.refl w2).alloc (.cells #[.int .i64 R, .int .i64 P, .int .u32 W, .int .i64 z1, .int .i64 n1, .int .i64 z2, .int .i64 n2] 57)
  have hgb := (hg1.trans hg2).trans hz
  clear hg1 hg2
  replace k0 := hgb.own.1 0 _ rfl
  replace k1 := hgb.own.1 1 _ rfl
  replace k2 := hgb.own.1 2 _ rfl
  replace k3 := hgb.own.1 3 _ rfl
  replace k4 := hgb.own.1 4 _ rfl
  replace k5 := hgb.own.1 5 _ rfl
  replace k6 := hgb.own.1 6 _ rfl
  go_wp2_with fail
  refine (SH.out _).mono ?_
  rintro e w3 ⟨rfl, hg3⟩
  replace k0 := hg3.cell k0
  replace k1 := hg3.cell k1
  replace k2 := hg3.cell k2
  replace k3 := hg3.cell k3
  replace k4 := hg3.cell k4
  replace k5 := hg3.cell k5
  replace k6 := hg3.cell k6
  go_wp2_with fail
  refine (RI.out _).mono ?_
  rintro e w5 ⟨r, p, W', y1, y2, y3, y4, hR, rfl, hg5⟩
  have HR := Lib.hid hR
  clear hR k0 k1 k2 k3 k4 k5 k6
  have hgB := hgb.trans (hg3.trans hg5)
  have hgC := hg3.trans hg5
  have k0 := hgB.own.1 0 _ rfl
  have f0 := hgB.own.2.1 0
  have k1 := hgB.own.1 1 _ rfl
  have f1 := hgB.own.2.1 1
  have k2 := hgB.own.1 2 _ rfl
  have f2 := hgB.own.2.1 2
  have k3 := hgB.own.1 3 _ rfl
  have f3 := hgB.own.2.1 3
  have k4 := hgB.own.1 4 _ rfl
  have f4 := hgB.own.2.1 4
  have k5 := hgB.own.1 5 _ rfl
  have f5 := hgB.own.2.1 5
  have k6 := hgB.own.1 6 _ rfl
  have f6 := hgB.own.2.1 6
  have v0 := hgC.own.1 0 _ rfl
  have g0 := hgC.own.2.1 0
  have v1 := hgC.own.1 1 _ rfl
  have g1 := hgC.own.2.1 1
  have v2 := hgC.own.1 2 _ rfl
  have g2 := hgC.own.2.1 2
  have v3 := hgC.own.1 3 _ rfl
  have g3 := hgC.own.2.1 3
  have v4 := hgC.own.1 4 _ rfl
  have g4 := hgC.own.2.1 4
  have v5 := hgC.own.1 5 _ rfl
  have g5 := hgC.own.2.1 5
  have v6 := hgC.own.1 6 _ rfl
  have g6 := hgC.own.2.1 6
  have HG5 := Lib.hid (((Gr.refl w).alloc (.cells #[.int .i64 R, .int .i64 P, .int .u32 W, .int .i64 z1, .int .i64 n1, .int .i64 z2, .int .i64 n2] 53)).trans hgB)
  clear hgB hgC hgb hg3 hg5 hz
  have hne : w2.heap.size ≠ w.heap.size := Nat.ne_of_gt hlt
  have hne' : w.heap.size ≠ w2.heap.size := Nat.ne_of_lt hlt
  have HLT := Lib.hid hlt
  go_wp2_with fail
  obtain ⟨⟨x0, x1, x2, x3, x4, x5, x6⟩, hoth, hfr, hgr⟩ := put7 k0 k1 k2 k3 k4 k5 k6 (rfl : (((((((w5.setCell ⟨w.heap.size, 0, none⟩ (.int .i64 (r : Nat))).setCell ⟨w.heap.size, 1, none⟩ (.int .i64 (p : Nat))).setCell ⟨w.heap.size, 2, none⟩ (.int .u32 (W' : Nat))).setCell ⟨w.heap.size, 3, none⟩ (.int .i64 (y1 : Nat))).setCell ⟨w.heap.size, 4, none⟩ (.int .i64 (y2 : Nat))).setCell ⟨w.heap.size, 5, none⟩ (.int .i64 (y3 : Nat))).setCell ⟨w.heap.size, 6, none⟩ (.int .i64 (y4 : Nat))) = _)
  have HW6 := Lib.hid (hgr _ HG5.out (Nat.le_refl _))
  generalize (((((((w5.setCell ⟨w.heap.size, 0, none⟩ (.int .i64 (r : Nat))).setCell ⟨w.heap.size, 1, none⟩ (.int .i64 (p : Nat))).setCell ⟨w.heap.size, 2, none⟩ (.int .u32 (W' : Nat))).setCell ⟨w.heap.size, 3, none⟩ (.int .i64 (y1 : Nat))).setCell ⟨w.heap.size, 4, none⟩ (.int .i64 (y2 : Nat))).setCell ⟨w.heap.size, 5, none⟩ (.int .i64 (y3 : Nat))).setCell ⟨w.heap.size, 6, none⟩ (.int .i64 (y4 : Nat))) = w6 at *
  clear k0 k1 k2 k3 k4 k5 k6
  replace v0 := hoth _ _ _ hne v0
  rw [← hfr] at g0
  replace v1 := hoth _ _ _ hne v1
  rw [← hfr] at g1
  replace v2 := hoth _ _ _ hne v2
  rw [← hfr] at g2
  replace v3 := hoth _ _ _ hne v3
  rw [← hfr] at g3
  replace v4 := hoth _ _ _ hne v4
  rw [← hfr] at g4
  replace v5 := hoth _ _ _ hne v5
  rw [← hfr] at g5
  replace v6 := hoth _ _ _ hne v6
  rw [← hfr] at g6
  clear hoth hfr hgr f0 f1 f2 f3 f4 f5 f6
  refine (own_any _ _ _ _ _ _ _ _).mono ?_
  rintro e w7 ⟨rfl, hg7⟩
  replace g0 := (hg7.frozen (o := 0) (cell_lt v0)).trans g0
  replace g1 := (hg7.frozen (o := 1) (cell_lt v1)).trans g1
  replace g2 := (hg7.frozen (o := 2) (cell_lt v2)).trans g2
  replace g3 := (hg7.frozen (o := 3) (cell_lt v3)).trans g3
  replace g4 := (hg7.frozen (o := 4) (cell_lt v4)).trans g4
  replace g5 := (hg7.frozen (o := 5) (cell_lt v5)).trans g5
  replace g6 := (hg7.frozen (o := 6) (cell_lt v6)).trans g6
  replace x0 := hg7.cell x0
  replace x1 := hg7.cell x1
  replace x2 := hg7.cell x2
  replace x3 := hg7.cell x3
  replace x4 := hg7.cell x4
  replace x5 := hg7.cell x5
  replace x6 := hg7.cell x6
  replace v0 := hg7.cell v0
  replace v1 := hg7.cell v1
  replace v2 := hg7.cell v2
  replace v3 := hg7.cell v3
  replace v4 := hg7.cell v4
  replace v5 := hg7.cell v5
  replace v6 := hg7.cell v6
  have HG7 := Lib.hid (HW6.out.trans hg7)
  clear hg7 hlt
  have h1 := HR.out.shp.hr
  have h2 := HR.out.shp.hp
  have hN := shp12 HR.out.shp
  have h9 := pow9 HR.out.shp
  have hWl := HR.out.shp.hW
  obtain ⟨m0, m1⟩ := mul_in (r := r) (p := p) (by omega)
  have hNI : (r : Int) * (p : Int) = ((r * p : Nat) : Int) := by simp
  have CH := Lib.hid (check_shp HR.out.shp true HR.out.good 0 rfl)
  have LN := Lib.hid (len_shp HR.out)
  have HA := Lib.hid (has2_any n (len_shp HR.out))
  have AL := Lib.hid (all_shp HR.out)
  have WI := Lib.hid (witnesses_any (W := W') (A := 2 ^ (r * p) - 1) (by omega) (by omega) (all_shp HR.out))
  rw [and_all hWl] at WI
  have V28 := Lib.hid (all_val (L := r * p) (by omega))
  have V28b := Lib.hid (all_val2 (L := r * p) (by omega))
  have hp0 : ((p : Int) == 0) = false := by simp; omega
  have hp1 : 1 ≤ p := by omega
  have hp3 : p ≤ 3 := by omega
  clear h1 h2 hWl h9
  obtain ⟨al, hal⟩ : ∃ al, 2 ^ (r * p) - 1 = al := ⟨_, rfl⟩
  rw [hal] at AL V28 V28b
  clear hal
  generalize r * p = N at *
  have hway : n < 0 ∧ decide (0 ≤ n ∧ n < (N : Int)) = false ∨ 0 ≤ n ∧ (N : Int) ≤ n ∧ decide (0 ≤ n ∧ n < (N : Int)) = false ∨ 0 ≤ n ∧ n < (N : Int) ∧ decide (0 ≤ n ∧ n < (N : Int)) = true := by
    simp only [decide_eq_false_iff_not, decide_eq_true_eq]; omega
  rcases hway with ⟨n0, hd⟩ | ⟨n0, n1', hd⟩ | ⟨n0, n1', hd⟩
  · rw [hd] at HA
    clear hd
    have RG := Lib.hid (regionOf_no HA.out)
    go_wp2
    obtain ⟨⟨q0, q1, q2, q3, q4, q5, q6⟩, hoth, hfr, hgr⟩ := put7 v0 v1 v2 v3 v4 v5 v6 (rfl : (((((((w7.setCell ⟨w2.heap.size, 0, none⟩ (.int .i64 (r : Nat))).setCell ⟨w2.heap.size, 1, none⟩ (.int .i64 (p : Nat))).setCell ⟨w2.heap.size, 2, none⟩ (.int .u32 (W' : Nat))).setCell ⟨w2.heap.size, 3, none⟩ (.int .i64 (y1 : Nat))).setCell ⟨w2.heap.size, 4, none⟩ (.int .i64 (y2 : Nat))).setCell ⟨w2.heap.size, 5, none⟩ (.int .i64 (y3 : Nat))).setCell ⟨w2.heap.size, 6, none⟩ (.int .i64 (y4 : Nat))) = _)
    have HZ := Lib.hid (hgr _ HG7.out (Nat.le_of_lt HLT.out))
    replace x0 := hoth _ _ _ hne' x0
    replace x1 := hoth _ _ _ hne' x1
    replace x2 := hoth _ _ _ hne' x2
    replace x3 := hoth _ _ _ hne' x3
    replace x4 := hoth _ _ _ hne' x4
    replace x5 := hoth _ _ _ hne' x5
    replace x6 := hoth _ _ _ hne' x6
    clear v0 v1 v2 v3 v4 v5 v6 g0 g1 g2 g3 g4 g5 g6 hoth hfr hgr
    generalize (((((((w7.setCell ⟨w2.heap.size, 0, none⟩ (.int .i64 (r : Nat))).setCell ⟨w2.heap.size, 1, none⟩ (.int .i64 (p : Nat))).setCell ⟨w2.heap.size, 2, none⟩ (.int .u32 (W' : Nat))).setCell ⟨w2.heap.size, 3, none⟩ (.int .i64 (y1 : Nat))).setCell ⟨w2.heap.size, 4, none⟩ (.int .i64 (y2 : Nat))).setCell ⟨w2.heap.size, 5, none⟩ (.int .i64 (y3 : Nat))).setCell ⟨w2.heap.size, 6, none⟩ (.int .i64 (y4 : Nat))) = wz at *
    generalize w2.heap.size = c at *
    generalize w.heap.size = b at *
    have HX : Hid (∀ w0 w9 : World, Gr w0 w9 → (fun w9 => Gr wz w9 ∧ w9.cell? ⟨b, 0, none⟩ = some (.int .i64 (r : Nat)) ∧ w9.cell? ⟨b, 1, none⟩ = some (.int .i64 (p : Nat)) ∧ w9.cell? ⟨b, 2, none⟩ = some (.int .u32 (W' : Nat)) ∧ w9.cell? ⟨b, 3, none⟩ = some (.int .i64 (y1 : Nat)) ∧ w9.cell? ⟨b, 4, none⟩ = some (.int .i64 (y2 : Nat)) ∧ w9.cell? ⟨b, 5, none⟩ = some (.int .i64 (y3 : Nat)) ∧ w9.cell? ⟨b, 6, none⟩ = some (.int .i64 (y4 : Nat)) ∧ w9.cell? ⟨c, 0, none⟩ = some (.int .i64 (r : Nat)) ∧ w9.cell? ⟨c, 1, none⟩ = some (.int .i64 (p : Nat)) ∧ w9.cell? ⟨c, 2, none⟩ = some (.int .u32 (W' : Nat)) ∧ w9.cell? ⟨c, 3, none⟩ = some (.int .i64 (y1 : Nat)) ∧ w9.cell? ⟨c, 4, none⟩ = some (.int .i64 (y2 : Nat)) ∧ w9.cell? ⟨c, 5, none⟩ = some (.int .i64 (y3 : Nat)) ∧ w9.cell? ⟨c, 6, none⟩ = some (.int .i64 (y4 : Nat))) w0 → (fun w9 => Gr wz w9 ∧ w9.cell? ⟨b, 0, none⟩ = some (.int .i64 (r : Nat)) ∧ w9.cell? ⟨b, 1, none⟩ = some (.int .i64 (p : Nat)) ∧ w9.cell? ⟨b, 2, none⟩ = some (.int .u32 (W' : Nat)) ∧ w9.cell? ⟨b, 3, none⟩ = some (.int .i64 (y1 : Nat)) ∧ w9.cell? ⟨b, 4, none⟩ = some (.int .i64 (y2 : Nat)) ∧ w9.cell? ⟨b, 5, none⟩ = some (.int .i64 (y3 : Nat)) ∧ w9.cell? ⟨b, 6, none⟩ = some (.int .i64 (y4 : Nat)) ∧ w9.cell? ⟨c, 0, none⟩ = some (.int .i64 (r : Nat)) ∧ w9.cell? ⟨c, 1, none⟩ = some (.int .i64 (p : Nat)) ∧ w9.cell? ⟨c, 2, none⟩ = some (.int .u32 (W' : Nat)) ∧ w9.cell? ⟨c, 3, none⟩ = some (.int .i64 (y1 : Nat)) ∧ w9.cell? ⟨c, 4, none⟩ = some (.int .i64 (y2 : Nat)) ∧ w9.cell? ⟨c, 5, none⟩ = some (.int .i64 (y3 : Nat)) ∧ w9.cell? ⟨c, 6, none⟩ = some (.int .i64 (y4 : Nat))) w9) := Lib.hid fun w0 w9 hg ⟨h, q0, q1, q2, q3, q4, q5, q6, q7, q8, q9, q10, q11, q12, q13⟩ => ⟨h.trans hg, hg.cell q0, hg.cell q1, hg.cell q2, hg.cell q3, hg.cell q4, hg.cell q5, hg.cell q6, hg.cell q7, hg.cell q8, hg.cell q9, hg.cell q10, hg.cell q11, hg.cell q12, hg.cell q13⟩
    have HS0 := And.intro (Gr.refl wz) (And.intro (x0) (And.intro (x1) (And.intro (x2) (And.intro (x3) (And.intro (x4) (And.intro (x5) (And.intro (x6) (And.intro (q0) (And.intro (q1) (And.intro (q2) (And.intro (q3) (And.intro (q4) (And.intro (q5) (q6))))))))))))))
    clear x0 x1 x2 x3 x4 x5 x6 q0 q1 q2 q3 q4 q5 q6
    refine wp_region_held_drew (S := (fun w9 => Gr wz w9 ∧ w9.cell? ⟨b, 0, none⟩ = some (.int .i64 (r : Nat)) ∧ w9.cell? ⟨b, 1, none⟩ = some (.int .i64 (p : Nat)) ∧ w9.cell? ⟨b, 2, none⟩ = some (.int .u32 (W' : Nat)) ∧ w9.cell? ⟨b, 3, none⟩ = some (.int .i64 (y1 : Nat)) ∧ w9.cell? ⟨b, 4, none⟩ = some (.int .i64 (y2 : Nat)) ∧ w9.cell? ⟨b, 5, none⟩ = some (.int .i64 (y3 : Nat)) ∧ w9.cell? ⟨b, 6, none⟩ = some (.int .i64 (y4 : Nat)) ∧ w9.cell? ⟨c, 0, none⟩ = some (.int .i64 (r : Nat)) ∧ w9.cell? ⟨c, 1, none⟩ = some (.int .i64 (p : Nat)) ∧ w9.cell? ⟨c, 2, none⟩ = some (.int .u32 (W' : Nat)) ∧ w9.cell? ⟨c, 3, none⟩ = some (.int .i64 (y1 : Nat)) ∧ w9.cell? ⟨c, 4, none⟩ = some (.int .i64 (y2 : Nat)) ∧ w9.cell? ⟨c, 5, none⟩ = some (.int .i64 (y3 : Nat)) ∧ w9.cell? ⟨c, 6, none⟩ = some (.int .i64 (y4 : Nat)))) (by kernel_rfl) ?inva (fun h0 => ?_)
    case inva => ((try dsimp only); (first | exact HS0 | exact HX.out _ _ ((Gr.refl _).drew) HS0))
    refine wpAnyH_take (i := 0) (oi := { dst := some 79, op := Go.Op.load 57 (Go.Operand.tmp 5), type := 57, pos := "law.go:68", after := #[], guard := none }) (v := ?va1) rfl (by kernel_rfl) (by kernel_rfl) (by kernel_rfl) (fun _ _ _ h => h) (Or.inl ⟨by rfl, ?ra1⟩) (by assumption) ?_
    case ra1 => (intro w hSw; (try dsimp only at hSw); (go_simp <;> with_reducible rfl))
    try simp only [Act.put, List.setIfInBounds_toArray, List.set_cons_zero, List.set_cons_succ]
    refine wpAnyH_ready (rs := [1]) (by kernel_rfl) (by simp) ?_
    refine AllReadyH.cons (o := { dst := some 80, op := Go.Op.call { callee := Go.Callee.value (Go.Operand.func 33), args := #[Go.Operand.tmp 79], argTypes := #[57] }, type := 44, pos := "law.go:68", after := #[{ on := 0, ground := Go.Ground.data }], guard := none }) rfl (fun K hK => ?_) AllReadyH.nil
    go_simp
    (go_at_call 33; refine (CH.out _).mono ?_; rintro e w9 ⟨rfl, hgN⟩)
    first | refine hK.out _ _ ?sa2 (fun h2 => ?_) | (go_wp2_with fail; refine hK.out _ _ ?sa2 (fun h2 => ?_))
    case sa2 => ((try dsimp only); exact HX.out _ _ hgN h0)
    clear hK K h0
    try simp only [Act.put, List.setIfInBounds_toArray, List.set_cons_zero, List.set_cons_succ]
    refine wpAnyH_take (i := 2) (oi := { dst := some 81, op := Go.Op.binOp Go.BinOp.eql 44 (Go.Operand.tmp 80) (Go.Operand.const (Go.Value.int Go.IntKind.i64 0)) 44, type := 4, pos := "law.go:68", after := #[{ on := 1, ground := Go.Ground.data }], guard := none }) (v := ?va3) rfl (by kernel_rfl) (by kernel_rfl) (by kernel_rfl) (fun _ _ _ h => h) (Or.inl ⟨by rfl, ?ra3⟩) (by assumption) ?_
    case ra3 => (intro w hSw; (try dsimp only at hSw); (go_simp <;> with_reducible rfl))
    try simp only [Act.put, List.setIfInBounds_toArray, List.set_cons_zero, List.set_cons_succ]
    refine wpAnyH_take (i := 3) (oi := { dst := some 82, op := Go.Op.move (Go.Operand.tmp 81), type := 4, pos := "law.go:68", after := #[{ on := 2, ground := Go.Ground.data }, { on := 1, ground := Go.Ground.chain }], guard := none }) (v := ?va4) rfl (by kernel_rfl) (by kernel_rfl) (by kernel_rfl) (fun _ _ _ h => h) (Or.inl ⟨by rfl, ?ra4⟩) (by assumption) ?_
    case ra4 => (intro w hSw; (try dsimp only at hSw); (go_simp <;> with_reducible rfl))
    try simp only [Act.put, List.setIfInBounds_toArray, List.set_cons_zero, List.set_cons_succ]
    refine wpAnyH_take (i := 4) (oi := { dst := some 83, op := Go.Op.load 57 (Go.Operand.tmp 5), type := 57, pos := "law.go:68", after := #[{ on := 3, ground := Go.Ground.guard }], guard := some (3, true) }) (v := ?va5) rfl (by kernel_rfl) (by kernel_rfl) (by kernel_rfl) (fun _ _ _ h => h) (Or.inl ⟨by rfl, ?ra5⟩) (by assumption) ?_
    case ra5 => (intro w hSw; (try dsimp only at hSw); (go_simp <;> with_reducible rfl))
    try simp only [Act.put, List.setIfInBounds_toArray, List.set_cons_zero, List.set_cons_succ]
    refine wpAnyH_take (i := 6) (oi := { dst := some 85, op := Go.Op.move (Go.Operand.tmp 6), type := 3, pos := "law.go:68", after := #[{ on := 3, ground := Go.Ground.guard }], guard := some (3, true) }) (v := ?va6) rfl (by kernel_rfl) (by kernel_rfl) (by kernel_rfl) (fun _ _ _ h => h) (Or.inl ⟨by rfl, ?ra6⟩) (by assumption) ?_
    case ra6 => (intro w hSw; (try dsimp only at hSw); (go_simp <;> with_reducible rfl))
    try simp only [Act.put, List.setIfInBounds_toArray, List.set_cons_zero, List.set_cons_succ]
    refine wpAnyH_ready (rs := [5]) (by kernel_rfl) (by simp) ?_
    refine AllReadyH.cons (o := { dst := some 84, op := Go.Op.call { callee := Go.Callee.value (Go.Operand.func 36), args := #[Go.Operand.tmp 83], argTypes := #[57] }, type := 3, pos := "law.go:68", after := #[{ on := 4, ground := Go.Ground.data }, { on := 3, ground := Go.Ground.chain }, { on := 3, ground := Go.Ground.guard }], guard := some (3, true) }) rfl (fun K hK => ?_) AllReadyH.nil
    go_simp
    (go_at_call 36; refine (LN.out _).mono ?_; rintro e w9 ⟨rfl, hgN⟩)
    first | refine hK.out _ _ ?sa7 (fun h7 => ?_) | (go_wp2_with fail; refine hK.out _ _ ?sa7 (fun h7 => ?_))
    case sa7 => ((try dsimp only); exact HX.out _ _ hgN h2)
    clear hK K h2
    try simp only [Act.put, List.setIfInBounds_toArray, List.set_cons_zero, List.set_cons_succ]
    refine wpAnyH_take (i := 7) (oi := { dst := some 86, op := Go.Op.binOp Go.BinOp.eql 3 (Go.Operand.tmp 84) (Go.Operand.tmp 85) 3, type := 4, pos := "law.go:68", after := #[{ on := 5, ground := Go.Ground.data }, { on := 6, ground := Go.Ground.data }, { on := 3, ground := Go.Ground.guard }], guard := some (3, true) }) (v := ?va8) rfl (by kernel_rfl) (by kernel_rfl) (by kernel_rfl) (fun _ _ _ h => h) (Or.inl ⟨by rfl, ?ra8⟩) (by assumption) ?_
    case ra8 => (intro w hSw; (try dsimp only at hSw); (go_simp <;> with_reducible rfl))
    try simp only [Act.put, List.setIfInBounds_toArray, List.set_cons_zero, List.set_cons_succ]
    refine wpAnyH_take (i := 8) (oi := { dst := some 87, op := Go.Op.pick (Go.Operand.tmp 82) (Go.Operand.tmp 86) (Go.Operand.const (Go.Value.bool false)), type := 4, pos := "law.go:68", after := #[{ on := 3, ground := Go.Ground.data }, { on := 7, ground := Go.Ground.data }], guard := none }) (v := ?va9) rfl (by kernel_rfl) (by kernel_rfl) (by kernel_rfl) (fun _ _ _ h => h) (Or.inl ⟨by rfl, ?ra9⟩) (by assumption) ?_
    case ra9 => (intro w hSw; (try dsimp only at hSw); (go_simp <;> with_reducible rfl))
    try simp only [Act.put, List.setIfInBounds_toArray, List.set_cons_zero, List.set_cons_succ]
    refine wpAnyH_take (i := 9) (oi := { dst := some 88, op := Go.Op.move (Go.Operand.tmp 87), type := 4, pos := "law.go:68", after := #[{ on := 8, ground := Go.Ground.data }, { on := 5, ground := Go.Ground.chain }], guard := none }) (v := ?va10) rfl (by kernel_rfl) (by kernel_rfl) (by kernel_rfl) (fun _ _ _ h => h) (Or.inl ⟨by rfl, ?ra10⟩) (by assumption) ?_
    case ra10 => (intro w hSw; (try dsimp only at hSw); (go_simp <;> with_reducible rfl))
    try simp only [Act.put, List.setIfInBounds_toArray, List.set_cons_zero, List.set_cons_succ]
    refine wpAnyH_take (i := 10) (oi := { dst := some 89, op := Go.Op.load 57 (Go.Operand.tmp 5), type := 57, pos := "law.go:68", after := #[{ on := 9, ground := Go.Ground.guard }], guard := some (9, true) }) (v := ?va11) rfl (by kernel_rfl) (by kernel_rfl) (by kernel_rfl) (fun _ _ _ h => h) (Or.inl ⟨by rfl, ?ra11⟩) (by assumption) ?_
    case ra11 => (intro w hSw; (try dsimp only at hSw); (go_simp <;> with_reducible rfl))
    try simp only [Act.put, List.setIfInBounds_toArray, List.set_cons_zero, List.set_cons_succ]
    refine wpAnyH_take (i := 11) (oi := { dst := some 90, op := Go.Op.move (Go.Operand.tmp 1), type := 3, pos := "law.go:68", after := #[{ on := 9, ground := Go.Ground.guard }], guard := some (9, true) }) (v := ?va12) rfl (by kernel_rfl) (by kernel_rfl) (by kernel_rfl) (fun _ _ _ h => h) (Or.inl ⟨by rfl, ?ra12⟩) (by assumption) ?_
    case ra12 => (intro w hSw; (try dsimp only at hSw); (go_simp <;> with_reducible rfl))
    try simp only [Act.put, List.setIfInBounds_toArray, List.set_cons_zero, List.set_cons_succ]
    refine wpAnyH_take (i := 13) (oi := { dst := some 92, op := Go.Op.move (Go.Operand.tmp 7), type := 4, pos := "law.go:68", after := #[{ on := 9, ground := Go.Ground.guard }], guard := some (9, true) }) (v := ?va13) rfl (by kernel_rfl) (by kernel_rfl) (by kernel_rfl) (fun _ _ _ h => h) (Or.inl ⟨by rfl, ?ra13⟩) (by assumption) ?_
    case ra13 => (intro w hSw; (try dsimp only at hSw); (go_simp <;> with_reducible rfl))
    try simp only [Act.put, List.setIfInBounds_toArray, List.set_cons_zero, List.set_cons_succ]
    refine wpAnyH_ready (rs := [12]) (by kernel_rfl) (by simp) ?_
    refine AllReadyH.cons (o := { dst := some 91, op := Go.Op.call { callee := Go.Callee.value (Go.Operand.func 37), args := #[Go.Operand.tmp 89, Go.Operand.tmp 90], argTypes := #[57, 3] }, type := 4, pos := "law.go:68", after := #[{ on := 10, ground := Go.Ground.data }, { on := 11, ground := Go.Ground.data }, { on := 9, ground := Go.Ground.chain }, { on := 9, ground := Go.Ground.guard }], guard := some (9, true) }) rfl (fun K hK => ?_) AllReadyH.nil
    go_simp
    (go_at_call 37; refine (HA.out _).mono ?_; rintro e w9 ⟨rfl, hgN⟩)
    first | refine hK.out _ _ ?sa14 (fun h14 => ?_) | (go_wp2_with fail; refine hK.out _ _ ?sa14 (fun h14 => ?_))
    case sa14 => ((try dsimp only); exact HX.out _ _ hgN h7)
    clear hK K h7
    try simp only [Act.put, List.setIfInBounds_toArray, List.set_cons_zero, List.set_cons_succ]
    refine wpAnyH_take (i := 14) (oi := { dst := some 93, op := Go.Op.binOp Go.BinOp.eql 4 (Go.Operand.tmp 91) (Go.Operand.tmp 92) 4, type := 4, pos := "law.go:68", after := #[{ on := 12, ground := Go.Ground.data }, { on := 13, ground := Go.Ground.data }, { on := 9, ground := Go.Ground.guard }], guard := some (9, true) }) (v := (.bool true)) rfl (by kernel_rfl) (by kernel_rfl) (by kernel_rfl) (fun _ _ _ h => h) (Or.inl ⟨by rfl, ?ra15⟩) (by assumption) ?_
    case ra15 => (intro w hSw; (try dsimp only at hSw); go_simp; (first | done | (simp; done) | (simp; omega)))
    try simp only [Act.put, List.setIfInBounds_toArray, List.set_cons_zero, List.set_cons_succ]
    refine wpAnyH_take (i := 15) (oi := { dst := some 94, op := Go.Op.pick (Go.Operand.tmp 88) (Go.Operand.tmp 93) (Go.Operand.const (Go.Value.bool false)), type := 4, pos := "law.go:68", after := #[{ on := 9, ground := Go.Ground.data }, { on := 14, ground := Go.Ground.data }], guard := none }) (v := ?va16) rfl (by kernel_rfl) (by kernel_rfl) (by kernel_rfl) (fun _ _ _ h => h) (Or.inl ⟨by rfl, ?ra16⟩) (by assumption) ?_
    case ra16 => (intro w hSw; (try dsimp only at hSw); (go_simp <;> with_reducible rfl))
    try simp only [Act.put, List.setIfInBounds_toArray, List.set_cons_zero, List.set_cons_succ]
    refine wpAnyH_take (i := 16) (oi := { dst := some 95, op := Go.Op.move (Go.Operand.tmp 94), type := 4, pos := "law.go:68", after := #[{ on := 15, ground := Go.Ground.data }, { on := 12, ground := Go.Ground.chain }], guard := none }) (v := ?va17) rfl (by kernel_rfl) (by kernel_rfl) (by kernel_rfl) (fun _ _ _ h => h) (Or.inl ⟨by rfl, ?ra17⟩) (by assumption) ?_
    case ra17 => (intro w hSw; (try dsimp only at hSw); (go_simp <;> with_reducible rfl))
    try simp only [Act.put, List.setIfInBounds_toArray, List.set_cons_zero, List.set_cons_succ]
    refine wpAnyH_take (i := 17) (oi := { dst := some 96, op := Go.Op.load 57 (Go.Operand.tmp 5), type := 57, pos := "law.go:68", after := #[{ on := 16, ground := Go.Ground.guard }], guard := some (16, true) }) (v := ?va18) rfl (by kernel_rfl) (by kernel_rfl) (by kernel_rfl) (fun _ _ _ h => h) (Or.inl ⟨by rfl, ?ra18⟩) (by assumption) ?_
    case ra18 => (intro w hSw; (try dsimp only at hSw); (go_simp <;> with_reducible rfl))
    try simp only [Act.put, List.setIfInBounds_toArray, List.set_cons_zero, List.set_cons_succ]
    refine wpAnyH_take (i := 18) (oi := { dst := some 97, op := Go.Op.move (Go.Operand.tmp 1), type := 3, pos := "law.go:68", after := #[{ on := 16, ground := Go.Ground.guard }], guard := some (16, true) }) (v := ?va19) rfl (by kernel_rfl) (by kernel_rfl) (by kernel_rfl) (fun _ _ _ h => h) (Or.inl ⟨by rfl, ?ra19⟩) (by assumption) ?_
    case ra19 => (intro w hSw; (try dsimp only at hSw); (go_simp <;> with_reducible rfl))
    try simp only [Act.put, List.setIfInBounds_toArray, List.set_cons_zero, List.set_cons_succ]
    refine wpAnyH_take (i := 20) (oi := { dst := some 99, op := Go.Op.move (Go.Operand.tmp 8), type := 3, pos := "law.go:68", after := #[{ on := 16, ground := Go.Ground.guard }], guard := some (16, true) }) (v := ?va20) rfl (by kernel_rfl) (by kernel_rfl) (by kernel_rfl) (fun _ _ _ h => h) (Or.inl ⟨by rfl, ?ra20⟩) (by assumption) ?_
    case ra20 => (intro w hSw; (try dsimp only at hSw); (go_simp <;> with_reducible rfl))
    try simp only [Act.put, List.setIfInBounds_toArray, List.set_cons_zero, List.set_cons_succ]
    refine wpAnyH_ready (rs := [19]) (by kernel_rfl) (by simp) ?_
    refine AllReadyH.cons (o := { dst := some 98, op := Go.Op.call { callee := Go.Callee.value (Go.Operand.func 38), args := #[Go.Operand.tmp 96, Go.Operand.tmp 97], argTypes := #[57, 3] }, type := 3, pos := "law.go:68", after := #[{ on := 17, ground := Go.Ground.data }, { on := 18, ground := Go.Ground.data }, { on := 16, ground := Go.Ground.chain }, { on := 16, ground := Go.Ground.guard }], guard := some (16, true) }) rfl (fun K hK => ?_) AllReadyH.nil
    go_simp
    (go_at_call 38; refine (RG.out _).mono ?_; rintro e w9 ⟨rfl, hgN⟩)
    first | refine hK.out _ _ ?sa21 (fun h21 => ?_) | (go_wp2_with fail; refine hK.out _ _ ?sa21 (fun h21 => ?_))
    case sa21 => ((try dsimp only); exact HX.out _ _ hgN h14)
    clear hK K h14
    try simp only [Act.put, List.setIfInBounds_toArray, List.set_cons_zero, List.set_cons_succ]
    refine wpAnyH_take (i := 21) (oi := { dst := some 100, op := Go.Op.binOp Go.BinOp.eql 3 (Go.Operand.tmp 98) (Go.Operand.tmp 99) 3, type := 4, pos := "law.go:68", after := #[{ on := 19, ground := Go.Ground.data }, { on := 20, ground := Go.Ground.data }, { on := 16, ground := Go.Ground.guard }], guard := some (16, true) }) (v := ?va22) rfl (by kernel_rfl) (by kernel_rfl) (by kernel_rfl) (fun _ _ _ h => h) (Or.inl ⟨by rfl, ?ra22⟩) (by assumption) ?_
    case ra22 => (intro w hSw; (try dsimp only at hSw); (go_simp <;> with_reducible rfl))
    try simp only [Act.put, List.setIfInBounds_toArray, List.set_cons_zero, List.set_cons_succ]
    refine wpAnyH_take (i := 22) (oi := { dst := some 101, op := Go.Op.pick (Go.Operand.tmp 95) (Go.Operand.tmp 100) (Go.Operand.const (Go.Value.bool false)), type := 4, pos := "law.go:68", after := #[{ on := 16, ground := Go.Ground.data }, { on := 21, ground := Go.Ground.data }], guard := none }) (v := ?va23) rfl (by kernel_rfl) (by kernel_rfl) (by kernel_rfl) (fun _ _ _ h => h) (Or.inl ⟨by rfl, ?ra23⟩) (by assumption) ?_
    case ra23 => (intro w hSw; (try dsimp only at hSw); (go_simp <;> with_reducible rfl))
    try simp only [Act.put, List.setIfInBounds_toArray, List.set_cons_zero, List.set_cons_succ]
    refine wpAnyH_take (i := 23) (oi := { dst := some 102, op := Go.Op.move (Go.Operand.tmp 101), type := 4, pos := "law.go:68", after := #[{ on := 22, ground := Go.Ground.data }, { on := 19, ground := Go.Ground.chain }], guard := none }) (v := ?va24) rfl (by kernel_rfl) (by kernel_rfl) (by kernel_rfl) (fun _ _ _ h => h) (Or.inl ⟨by rfl, ?ra24⟩) (by assumption) ?_
    case ra24 => (intro w hSw; (try dsimp only at hSw); (go_simp <;> with_reducible rfl))
    try simp only [Act.put, List.setIfInBounds_toArray, List.set_cons_zero, List.set_cons_succ]
    refine wpAnyH_take (i := 24) (oi := { dst := some 103, op := Go.Op.load 57 (Go.Operand.tmp 5), type := 57, pos := "law.go:68", after := #[{ on := 23, ground := Go.Ground.guard }], guard := some (23, true) }) (v := ?va25) rfl (by kernel_rfl) (by kernel_rfl) (by kernel_rfl) (fun _ _ _ h => h) (Or.inl ⟨by rfl, ?ra25⟩) (by assumption) ?_
    case ra25 => (intro w hSw; (try dsimp only at hSw); (go_simp <;> with_reducible rfl))
    try simp only [Act.put, List.setIfInBounds_toArray, List.set_cons_zero, List.set_cons_succ]
    refine wpAnyH_take (i := 26) (oi := { dst := some 105, op := Go.Op.move (Go.Operand.tmp 6), type := 3, pos := "law.go:68", after := #[{ on := 23, ground := Go.Ground.guard }], guard := some (23, true) }) (v := ?va26) rfl (by kernel_rfl) (by kernel_rfl) (by kernel_rfl) (fun _ _ _ h => h) (Or.inl ⟨by rfl, ?ra26⟩) (by assumption) ?_
    case ra26 => (intro w hSw; (try dsimp only at hSw); (go_simp <;> with_reducible rfl))
    try simp only [Act.put, List.setIfInBounds_toArray, List.set_cons_zero, List.set_cons_succ]
    refine wpAnyH_take (i := 27) (oi := { dst := some 106, op := Go.Op.binOp Go.BinOp.shl 49 (Go.Operand.const (Go.Value.int Go.IntKind.u32 1)) (Go.Operand.tmp 105) 3, type := 49, pos := "law.go:68", after := #[{ on := 26, ground := Go.Ground.data }, { on := 23, ground := Go.Ground.guard }], guard := some (23, true) }) (v := ?va27) rfl (by kernel_rfl) (by kernel_rfl) (by kernel_rfl) (fun _ _ _ h => h) (Or.inl ⟨by rfl, ?ra27⟩) (by assumption) ?_
    case ra27 => (intro w hSw; (try dsimp only at hSw); (go_simp <;> with_reducible rfl))
    try simp only [Act.put, List.setIfInBounds_toArray, List.set_cons_zero, List.set_cons_succ]
    refine wpAnyH_take (i := 28) (oi := { dst := some 107, op := Go.Op.binOp Go.BinOp.sub 49 (Go.Operand.tmp 106) (Go.Operand.const (Go.Value.int Go.IntKind.u32 1)) 49, type := 49, pos := "law.go:68", after := #[{ on := 27, ground := Go.Ground.data }, { on := 23, ground := Go.Ground.guard }], guard := some (23, true) }) (v := (.int .u32 (al : Nat))) rfl (by kernel_rfl) (by kernel_rfl) (by kernel_rfl) (fun _ _ _ h => h) (Or.inl ⟨by rfl, ?ra28⟩) (by assumption) ?_
    case ra28 => (intro w hSw; (try dsimp only at hSw); go_simp; (first | (simp [IntKind.wrap_u32, V28.out]; done) | (simp [IntKind.wrap_u32, V28b.out]; done)))
    try simp only [Act.put, List.setIfInBounds_toArray, List.set_cons_zero, List.set_cons_succ]
    refine wpAnyH_ready (rs := [25]) (by kernel_rfl) (by simp) ?_
    refine AllReadyH.cons (o := { dst := some 104, op := Go.Op.call { callee := Go.Callee.value (Go.Operand.func 39), args := #[Go.Operand.tmp 103], argTypes := #[57] }, type := 49, pos := "law.go:68", after := #[{ on := 24, ground := Go.Ground.data }, { on := 23, ground := Go.Ground.chain }, { on := 23, ground := Go.Ground.guard }], guard := some (23, true) }) rfl (fun K hK => ?_) AllReadyH.nil
    go_simp
    (go_at_call 39; refine (AL.out _).mono ?_; rintro e w9 ⟨rfl, hgN⟩)
    first | refine hK.out _ _ ?sa29 (fun h29 => ?_) | (go_wp2_with fail; refine hK.out _ _ ?sa29 (fun h29 => ?_))
    case sa29 => ((try dsimp only); exact HX.out _ _ hgN h21)
    clear hK K h21
    try simp only [Act.put, List.setIfInBounds_toArray, List.set_cons_zero, List.set_cons_succ]
    refine wpAnyH_take (i := 29) (oi := { dst := some 108, op := Go.Op.binOp Go.BinOp.eql 49 (Go.Operand.tmp 104) (Go.Operand.tmp 107) 49, type := 4, pos := "law.go:68", after := #[{ on := 25, ground := Go.Ground.data }, { on := 28, ground := Go.Ground.data }, { on := 23, ground := Go.Ground.guard }], guard := some (23, true) }) (v := ?va30) rfl (by kernel_rfl) (by kernel_rfl) (by kernel_rfl) (fun _ _ _ h => h) (Or.inl ⟨by rfl, ?ra30⟩) (by assumption) ?_
    case ra30 => (intro w hSw; (try dsimp only at hSw); (go_simp <;> with_reducible rfl))
    try simp only [Act.put, List.setIfInBounds_toArray, List.set_cons_zero, List.set_cons_succ]
    refine wpAnyH_take (i := 30) (oi := { dst := some 109, op := Go.Op.pick (Go.Operand.tmp 102) (Go.Operand.tmp 108) (Go.Operand.const (Go.Value.bool false)), type := 4, pos := "law.go:68", after := #[{ on := 23, ground := Go.Ground.data }, { on := 29, ground := Go.Ground.data }], guard := none }) (v := ?va31) rfl (by kernel_rfl) (by kernel_rfl) (by kernel_rfl) (fun _ _ _ h => h) (Or.inl ⟨by rfl, ?ra31⟩) (by assumption) ?_
    case ra31 => (intro w hSw; (try dsimp only at hSw); (go_simp <;> with_reducible rfl))
    try simp only [Act.put, List.setIfInBounds_toArray, List.set_cons_zero, List.set_cons_succ]
    refine wpAnyH_take (i := 31) (oi := { dst := some 110, op := Go.Op.move (Go.Operand.tmp 109), type := 4, pos := "law.go:68", after := #[{ on := 30, ground := Go.Ground.data }, { on := 25, ground := Go.Ground.chain }], guard := none }) (v := ?va32) rfl (by kernel_rfl) (by kernel_rfl) (by kernel_rfl) (fun _ _ _ h => h) (Or.inl ⟨by rfl, ?ra32⟩) (by assumption) ?_
    case ra32 => (intro w hSw; (try dsimp only at hSw); (go_simp <;> with_reducible rfl))
    try simp only [Act.put, List.setIfInBounds_toArray, List.set_cons_zero, List.set_cons_succ]
    refine wpAnyH_take (i := 32) (oi := { dst := some 111, op := Go.Op.load 57 (Go.Operand.tmp 5), type := 57, pos := "law.go:68", after := #[{ on := 31, ground := Go.Ground.guard }], guard := some (31, true) }) (v := ?va33) rfl (by kernel_rfl) (by kernel_rfl) (by kernel_rfl) (fun _ _ _ h => h) (Or.inl ⟨by rfl, ?ra33⟩) (by assumption) ?_
    case ra33 => (intro w hSw; (try dsimp only at hSw); (go_simp <;> with_reducible rfl))
    try simp only [Act.put, List.setIfInBounds_toArray, List.set_cons_zero, List.set_cons_succ]
    refine wpAnyH_take (i := 34) (oi := { dst := some 113, op := Go.Op.fieldAddr 53 (Go.Operand.tmp 2) 2, type := 0, pos := "law.go:68", after := #[{ on := 31, ground := Go.Ground.guard }], guard := some (31, true) }) (v := ?va34) rfl (by kernel_rfl) (by kernel_rfl) (by kernel_rfl) (fun _ _ _ h => h) (Or.inl ⟨by rfl, ?ra34⟩) (by assumption) ?_
    case ra34 => (intro w hSw; (try dsimp only at hSw); (go_simp <;> with_reducible rfl))
    try simp only [Act.put, List.setIfInBounds_toArray, List.set_cons_zero, List.set_cons_succ]
    refine wpAnyH_take (i := 35) (oi := { dst := some 114, op := Go.Op.load 49 (Go.Operand.tmp 113), type := 49, pos := "law.go:68", after := #[{ on := 34, ground := Go.Ground.data }, { on := 31, ground := Go.Ground.guard }], guard := some (31, true) }) (v := ?va35) rfl (by kernel_rfl) (by kernel_rfl) (by kernel_rfl) (fun _ _ _ h => h) (Or.inl ⟨by rfl, ?ra35⟩) (by assumption) ?_
    case ra35 => (intro w hSw; (try dsimp only at hSw); (go_simp <;> with_reducible rfl))
    try simp only [Act.put, List.setIfInBounds_toArray, List.set_cons_zero, List.set_cons_succ]
    refine wpAnyH_ready (rs := [33]) (by kernel_rfl) (by simp) ?_
    refine AllReadyH.cons (o := { dst := some 112, op := Go.Op.call { callee := Go.Callee.value (Go.Operand.func 40), args := #[Go.Operand.tmp 111], argTypes := #[57] }, type := 49, pos := "law.go:68", after := #[{ on := 32, ground := Go.Ground.data }, { on := 31, ground := Go.Ground.chain }, { on := 31, ground := Go.Ground.guard }], guard := some (31, true) }) rfl (fun K hK => ?_) AllReadyH.nil
    go_simp
    (go_at_call 40; refine (WI.out _).mono ?_; rintro e w9 ⟨rfl, hgN⟩)
    first | refine hK.out _ _ ?sa36 (fun h36 => ?_) | (go_wp2_with fail; refine hK.out _ _ ?sa36 (fun h36 => ?_))
    case sa36 => ((try dsimp only); exact HX.out _ _ hgN h29)
    clear hK K h29
    try simp only [Act.put, List.setIfInBounds_toArray, List.set_cons_zero, List.set_cons_succ]
    refine wpAnyH_take (i := 36) (oi := { dst := some 115, op := Go.Op.binOp Go.BinOp.eql 49 (Go.Operand.tmp 112) (Go.Operand.tmp 114) 49, type := 4, pos := "law.go:68", after := #[{ on := 33, ground := Go.Ground.data }, { on := 35, ground := Go.Ground.data }, { on := 31, ground := Go.Ground.guard }], guard := some (31, true) }) (v := ?va37) rfl (by kernel_rfl) (by kernel_rfl) (by kernel_rfl) (fun _ _ _ h => h) (Or.inl ⟨by rfl, ?ra37⟩) (by assumption) ?_
    case ra37 => (intro w hSw; (try dsimp only at hSw); (go_simp <;> with_reducible rfl))
    try simp only [Act.put, List.setIfInBounds_toArray, List.set_cons_zero, List.set_cons_succ]
    refine wpAnyH_take (i := 37) (oi := { dst := some 116, op := Go.Op.pick (Go.Operand.tmp 110) (Go.Operand.tmp 115) (Go.Operand.const (Go.Value.bool false)), type := 4, pos := "law.go:68", after := #[{ on := 31, ground := Go.Ground.data }, { on := 36, ground := Go.Ground.data }], guard := none }) (v := ?va38) rfl (by kernel_rfl) (by kernel_rfl) (by kernel_rfl) (fun _ _ _ h => h) (Or.inl ⟨by rfl, ?ra38⟩) (by assumption) ?_
    case ra38 => (intro w hSw; (try dsimp only at hSw); (go_simp <;> with_reducible rfl))
    try simp only [Act.put, List.setIfInBounds_toArray, List.set_cons_zero, List.set_cons_succ]
    refine wpAnyH_take (i := 38) (oi := { dst := some 4, op := Go.Op.assign (Go.Operand.tmp 116), type := 4, pos := "law.go:68", after := #[{ on := 37, ground := Go.Ground.data }, { on := 33, ground := Go.Ground.chain }, { on := 0, ground := Go.Ground.phase }, { on := 1, ground := Go.Ground.phase }, { on := 2, ground := Go.Ground.phase }, { on := 3, ground := Go.Ground.phase }, { on := 4, ground := Go.Ground.phase }, { on := 5, ground := Go.Ground.phase }, { on := 6, ground := Go.Ground.phase }, { on := 7, ground := Go.Ground.phase }, { on := 8, ground := Go.Ground.phase }, { on := 9, ground := Go.Ground.phase }, { on := 10, ground := Go.Ground.phase }, { on := 11, ground := Go.Ground.phase }, { on := 12, ground := Go.Ground.phase }, { on := 13, ground := Go.Ground.phase }, { on := 14, ground := Go.Ground.phase }, { on := 15, ground := Go.Ground.phase }, { on := 16, ground := Go.Ground.phase }, { on := 17, ground := Go.Ground.phase }, { on := 18, ground := Go.Ground.phase }, { on := 19, ground := Go.Ground.phase }, { on := 20, ground := Go.Ground.phase }, { on := 21, ground := Go.Ground.phase }, { on := 22, ground := Go.Ground.phase }, { on := 23, ground := Go.Ground.phase }, { on := 24, ground := Go.Ground.phase }, { on := 25, ground := Go.Ground.phase }, { on := 26, ground := Go.Ground.phase }, { on := 27, ground := Go.Ground.phase }, { on := 28, ground := Go.Ground.phase }, { on := 29, ground := Go.Ground.phase }, { on := 30, ground := Go.Ground.phase }, { on := 31, ground := Go.Ground.phase }, { on := 32, ground := Go.Ground.phase }, { on := 33, ground := Go.Ground.phase }, { on := 34, ground := Go.Ground.phase }, { on := 35, ground := Go.Ground.phase }, { on := 36, ground := Go.Ground.phase }, { on := 37, ground := Go.Ground.phase }], guard := none }) (v := ?va39) rfl (by kernel_rfl) (by kernel_rfl) (by kernel_rfl) (fun _ _ _ h => h) (Or.inl ⟨by rfl, ?ra39⟩) (by assumption) ?_
    case ra39 => (intro w hSw; (try dsimp only at hSw); (go_simp <;> with_reducible rfl))
    try simp only [Act.put, List.setIfInBounds_toArray, List.set_cons_zero, List.set_cons_succ]
    refine wpAnyH_done (by kernel_rfl) ?_ _
    have G9 := Lib.hid (h36).1
    clear h36
    go_wp2
    go_ret
    exact ⟨rfl, HZ.out.trans G9.out⟩
  · rw [hd] at HA
    clear hd
    have RG := Lib.hid (regionOf_no HA.out)
    go_wp2
    obtain ⟨⟨q0, q1, q2, q3, q4, q5, q6⟩, hoth, hfr, hgr⟩ := put7 v0 v1 v2 v3 v4 v5 v6 (rfl : (((((((w7.setCell ⟨w2.heap.size, 0, none⟩ (.int .i64 (r : Nat))).setCell ⟨w2.heap.size, 1, none⟩ (.int .i64 (p : Nat))).setCell ⟨w2.heap.size, 2, none⟩ (.int .u32 (W' : Nat))).setCell ⟨w2.heap.size, 3, none⟩ (.int .i64 (y1 : Nat))).setCell ⟨w2.heap.size, 4, none⟩ (.int .i64 (y2 : Nat))).setCell ⟨w2.heap.size, 5, none⟩ (.int .i64 (y3 : Nat))).setCell ⟨w2.heap.size, 6, none⟩ (.int .i64 (y4 : Nat))) = _)
    have HZ := Lib.hid (hgr _ HG7.out (Nat.le_of_lt HLT.out))
    replace x0 := hoth _ _ _ hne' x0
    replace x1 := hoth _ _ _ hne' x1
    replace x2 := hoth _ _ _ hne' x2
    replace x3 := hoth _ _ _ hne' x3
    replace x4 := hoth _ _ _ hne' x4
    replace x5 := hoth _ _ _ hne' x5
    replace x6 := hoth _ _ _ hne' x6
    clear v0 v1 v2 v3 v4 v5 v6 g0 g1 g2 g3 g4 g5 g6 hoth hfr hgr
    generalize (((((((w7.setCell ⟨w2.heap.size, 0, none⟩ (.int .i64 (r : Nat))).setCell ⟨w2.heap.size, 1, none⟩ (.int .i64 (p : Nat))).setCell ⟨w2.heap.size, 2, none⟩ (.int .u32 (W' : Nat))).setCell ⟨w2.heap.size, 3, none⟩ (.int .i64 (y1 : Nat))).setCell ⟨w2.heap.size, 4, none⟩ (.int .i64 (y2 : Nat))).setCell ⟨w2.heap.size, 5, none⟩ (.int .i64 (y3 : Nat))).setCell ⟨w2.heap.size, 6, none⟩ (.int .i64 (y4 : Nat))) = wz at *
    generalize w2.heap.size = c at *
    generalize w.heap.size = b at *
    have HX : Hid (∀ w0 w9 : World, Gr w0 w9 → (fun w9 => Gr wz w9 ∧ w9.cell? ⟨b, 0, none⟩ = some (.int .i64 (r : Nat)) ∧ w9.cell? ⟨b, 1, none⟩ = some (.int .i64 (p : Nat)) ∧ w9.cell? ⟨b, 2, none⟩ = some (.int .u32 (W' : Nat)) ∧ w9.cell? ⟨b, 3, none⟩ = some (.int .i64 (y1 : Nat)) ∧ w9.cell? ⟨b, 4, none⟩ = some (.int .i64 (y2 : Nat)) ∧ w9.cell? ⟨b, 5, none⟩ = some (.int .i64 (y3 : Nat)) ∧ w9.cell? ⟨b, 6, none⟩ = some (.int .i64 (y4 : Nat)) ∧ w9.cell? ⟨c, 0, none⟩ = some (.int .i64 (r : Nat)) ∧ w9.cell? ⟨c, 1, none⟩ = some (.int .i64 (p : Nat)) ∧ w9.cell? ⟨c, 2, none⟩ = some (.int .u32 (W' : Nat)) ∧ w9.cell? ⟨c, 3, none⟩ = some (.int .i64 (y1 : Nat)) ∧ w9.cell? ⟨c, 4, none⟩ = some (.int .i64 (y2 : Nat)) ∧ w9.cell? ⟨c, 5, none⟩ = some (.int .i64 (y3 : Nat)) ∧ w9.cell? ⟨c, 6, none⟩ = some (.int .i64 (y4 : Nat))) w0 → (fun w9 => Gr wz w9 ∧ w9.cell? ⟨b, 0, none⟩ = some (.int .i64 (r : Nat)) ∧ w9.cell? ⟨b, 1, none⟩ = some (.int .i64 (p : Nat)) ∧ w9.cell? ⟨b, 2, none⟩ = some (.int .u32 (W' : Nat)) ∧ w9.cell? ⟨b, 3, none⟩ = some (.int .i64 (y1 : Nat)) ∧ w9.cell? ⟨b, 4, none⟩ = some (.int .i64 (y2 : Nat)) ∧ w9.cell? ⟨b, 5, none⟩ = some (.int .i64 (y3 : Nat)) ∧ w9.cell? ⟨b, 6, none⟩ = some (.int .i64 (y4 : Nat)) ∧ w9.cell? ⟨c, 0, none⟩ = some (.int .i64 (r : Nat)) ∧ w9.cell? ⟨c, 1, none⟩ = some (.int .i64 (p : Nat)) ∧ w9.cell? ⟨c, 2, none⟩ = some (.int .u32 (W' : Nat)) ∧ w9.cell? ⟨c, 3, none⟩ = some (.int .i64 (y1 : Nat)) ∧ w9.cell? ⟨c, 4, none⟩ = some (.int .i64 (y2 : Nat)) ∧ w9.cell? ⟨c, 5, none⟩ = some (.int .i64 (y3 : Nat)) ∧ w9.cell? ⟨c, 6, none⟩ = some (.int .i64 (y4 : Nat))) w9) := Lib.hid fun w0 w9 hg ⟨h, q0, q1, q2, q3, q4, q5, q6, q7, q8, q9, q10, q11, q12, q13⟩ => ⟨h.trans hg, hg.cell q0, hg.cell q1, hg.cell q2, hg.cell q3, hg.cell q4, hg.cell q5, hg.cell q6, hg.cell q7, hg.cell q8, hg.cell q9, hg.cell q10, hg.cell q11, hg.cell q12, hg.cell q13⟩
    have HS0 := And.intro (Gr.refl wz) (And.intro (x0) (And.intro (x1) (And.intro (x2) (And.intro (x3) (And.intro (x4) (And.intro (x5) (And.intro (x6) (And.intro (q0) (And.intro (q1) (And.intro (q2) (And.intro (q3) (And.intro (q4) (And.intro (q5) (q6))))))))))))))
    clear x0 x1 x2 x3 x4 x5 x6 q0 q1 q2 q3 q4 q5 q6
    refine wp_region_held_drew (S := (fun w9 => Gr wz w9 ∧ w9.cell? ⟨b, 0, none⟩ = some (.int .i64 (r : Nat)) ∧ w9.cell? ⟨b, 1, none⟩ = some (.int .i64 (p : Nat)) ∧ w9.cell? ⟨b, 2, none⟩ = some (.int .u32 (W' : Nat)) ∧ w9.cell? ⟨b, 3, none⟩ = some (.int .i64 (y1 : Nat)) ∧ w9.cell? ⟨b, 4, none⟩ = some (.int .i64 (y2 : Nat)) ∧ w9.cell? ⟨b, 5, none⟩ = some (.int .i64 (y3 : Nat)) ∧ w9.cell? ⟨b, 6, none⟩ = some (.int .i64 (y4 : Nat)) ∧ w9.cell? ⟨c, 0, none⟩ = some (.int .i64 (r : Nat)) ∧ w9.cell? ⟨c, 1, none⟩ = some (.int .i64 (p : Nat)) ∧ w9.cell? ⟨c, 2, none⟩ = some (.int .u32 (W' : Nat)) ∧ w9.cell? ⟨c, 3, none⟩ = some (.int .i64 (y1 : Nat)) ∧ w9.cell? ⟨c, 4, none⟩ = some (.int .i64 (y2 : Nat)) ∧ w9.cell? ⟨c, 5, none⟩ = some (.int .i64 (y3 : Nat)) ∧ w9.cell? ⟨c, 6, none⟩ = some (.int .i64 (y4 : Nat)))) (by kernel_rfl) ?invb (fun h0 => ?_)
    case invb => ((try dsimp only); (first | exact HS0 | exact HX.out _ _ ((Gr.refl _).drew) HS0))
    refine wpAnyH_take (i := 0) (oi := { dst := some 79, op := Go.Op.load 57 (Go.Operand.tmp 5), type := 57, pos := "law.go:68", after := #[], guard := none }) (v := ?vb1) rfl (by kernel_rfl) (by kernel_rfl) (by kernel_rfl) (fun _ _ _ h => h) (Or.inl ⟨by rfl, ?rb1⟩) (by assumption) ?_
    case rb1 => (intro w hSw; (try dsimp only at hSw); (go_simp <;> with_reducible rfl))
    try simp only [Act.put, List.setIfInBounds_toArray, List.set_cons_zero, List.set_cons_succ]
    refine wpAnyH_ready (rs := [1]) (by kernel_rfl) (by simp) ?_
    refine AllReadyH.cons (o := { dst := some 80, op := Go.Op.call { callee := Go.Callee.value (Go.Operand.func 33), args := #[Go.Operand.tmp 79], argTypes := #[57] }, type := 44, pos := "law.go:68", after := #[{ on := 0, ground := Go.Ground.data }], guard := none }) rfl (fun K hK => ?_) AllReadyH.nil
    go_simp
    (go_at_call 33; refine (CH.out _).mono ?_; rintro e w9 ⟨rfl, hgN⟩)
    first | refine hK.out _ _ ?sb2 (fun h2 => ?_) | (go_wp2_with fail; refine hK.out _ _ ?sb2 (fun h2 => ?_))
    case sb2 => ((try dsimp only); exact HX.out _ _ hgN h0)
    clear hK K h0
    try simp only [Act.put, List.setIfInBounds_toArray, List.set_cons_zero, List.set_cons_succ]
    refine wpAnyH_take (i := 2) (oi := { dst := some 81, op := Go.Op.binOp Go.BinOp.eql 44 (Go.Operand.tmp 80) (Go.Operand.const (Go.Value.int Go.IntKind.i64 0)) 44, type := 4, pos := "law.go:68", after := #[{ on := 1, ground := Go.Ground.data }], guard := none }) (v := ?vb3) rfl (by kernel_rfl) (by kernel_rfl) (by kernel_rfl) (fun _ _ _ h => h) (Or.inl ⟨by rfl, ?rb3⟩) (by assumption) ?_
    case rb3 => (intro w hSw; (try dsimp only at hSw); (go_simp <;> with_reducible rfl))
    try simp only [Act.put, List.setIfInBounds_toArray, List.set_cons_zero, List.set_cons_succ]
    refine wpAnyH_take (i := 3) (oi := { dst := some 82, op := Go.Op.move (Go.Operand.tmp 81), type := 4, pos := "law.go:68", after := #[{ on := 2, ground := Go.Ground.data }, { on := 1, ground := Go.Ground.chain }], guard := none }) (v := ?vb4) rfl (by kernel_rfl) (by kernel_rfl) (by kernel_rfl) (fun _ _ _ h => h) (Or.inl ⟨by rfl, ?rb4⟩) (by assumption) ?_
    case rb4 => (intro w hSw; (try dsimp only at hSw); (go_simp <;> with_reducible rfl))
    try simp only [Act.put, List.setIfInBounds_toArray, List.set_cons_zero, List.set_cons_succ]
    refine wpAnyH_take (i := 4) (oi := { dst := some 83, op := Go.Op.load 57 (Go.Operand.tmp 5), type := 57, pos := "law.go:68", after := #[{ on := 3, ground := Go.Ground.guard }], guard := some (3, true) }) (v := ?vb5) rfl (by kernel_rfl) (by kernel_rfl) (by kernel_rfl) (fun _ _ _ h => h) (Or.inl ⟨by rfl, ?rb5⟩) (by assumption) ?_
    case rb5 => (intro w hSw; (try dsimp only at hSw); (go_simp <;> with_reducible rfl))
    try simp only [Act.put, List.setIfInBounds_toArray, List.set_cons_zero, List.set_cons_succ]
    refine wpAnyH_take (i := 6) (oi := { dst := some 85, op := Go.Op.move (Go.Operand.tmp 6), type := 3, pos := "law.go:68", after := #[{ on := 3, ground := Go.Ground.guard }], guard := some (3, true) }) (v := ?vb6) rfl (by kernel_rfl) (by kernel_rfl) (by kernel_rfl) (fun _ _ _ h => h) (Or.inl ⟨by rfl, ?rb6⟩) (by assumption) ?_
    case rb6 => (intro w hSw; (try dsimp only at hSw); (go_simp <;> with_reducible rfl))
    try simp only [Act.put, List.setIfInBounds_toArray, List.set_cons_zero, List.set_cons_succ]
    refine wpAnyH_ready (rs := [5]) (by kernel_rfl) (by simp) ?_
    refine AllReadyH.cons (o := { dst := some 84, op := Go.Op.call { callee := Go.Callee.value (Go.Operand.func 36), args := #[Go.Operand.tmp 83], argTypes := #[57] }, type := 3, pos := "law.go:68", after := #[{ on := 4, ground := Go.Ground.data }, { on := 3, ground := Go.Ground.chain }, { on := 3, ground := Go.Ground.guard }], guard := some (3, true) }) rfl (fun K hK => ?_) AllReadyH.nil
    go_simp
    (go_at_call 36; refine (LN.out _).mono ?_; rintro e w9 ⟨rfl, hgN⟩)
    first | refine hK.out _ _ ?sb7 (fun h7 => ?_) | (go_wp2_with fail; refine hK.out _ _ ?sb7 (fun h7 => ?_))
    case sb7 => ((try dsimp only); exact HX.out _ _ hgN h2)
    clear hK K h2
    try simp only [Act.put, List.setIfInBounds_toArray, List.set_cons_zero, List.set_cons_succ]
    refine wpAnyH_take (i := 7) (oi := { dst := some 86, op := Go.Op.binOp Go.BinOp.eql 3 (Go.Operand.tmp 84) (Go.Operand.tmp 85) 3, type := 4, pos := "law.go:68", after := #[{ on := 5, ground := Go.Ground.data }, { on := 6, ground := Go.Ground.data }, { on := 3, ground := Go.Ground.guard }], guard := some (3, true) }) (v := ?vb8) rfl (by kernel_rfl) (by kernel_rfl) (by kernel_rfl) (fun _ _ _ h => h) (Or.inl ⟨by rfl, ?rb8⟩) (by assumption) ?_
    case rb8 => (intro w hSw; (try dsimp only at hSw); (go_simp <;> with_reducible rfl))
    try simp only [Act.put, List.setIfInBounds_toArray, List.set_cons_zero, List.set_cons_succ]
    refine wpAnyH_take (i := 8) (oi := { dst := some 87, op := Go.Op.pick (Go.Operand.tmp 82) (Go.Operand.tmp 86) (Go.Operand.const (Go.Value.bool false)), type := 4, pos := "law.go:68", after := #[{ on := 3, ground := Go.Ground.data }, { on := 7, ground := Go.Ground.data }], guard := none }) (v := ?vb9) rfl (by kernel_rfl) (by kernel_rfl) (by kernel_rfl) (fun _ _ _ h => h) (Or.inl ⟨by rfl, ?rb9⟩) (by assumption) ?_
    case rb9 => (intro w hSw; (try dsimp only at hSw); (go_simp <;> with_reducible rfl))
    try simp only [Act.put, List.setIfInBounds_toArray, List.set_cons_zero, List.set_cons_succ]
    refine wpAnyH_take (i := 9) (oi := { dst := some 88, op := Go.Op.move (Go.Operand.tmp 87), type := 4, pos := "law.go:68", after := #[{ on := 8, ground := Go.Ground.data }, { on := 5, ground := Go.Ground.chain }], guard := none }) (v := ?vb10) rfl (by kernel_rfl) (by kernel_rfl) (by kernel_rfl) (fun _ _ _ h => h) (Or.inl ⟨by rfl, ?rb10⟩) (by assumption) ?_
    case rb10 => (intro w hSw; (try dsimp only at hSw); (go_simp <;> with_reducible rfl))
    try simp only [Act.put, List.setIfInBounds_toArray, List.set_cons_zero, List.set_cons_succ]
    refine wpAnyH_take (i := 10) (oi := { dst := some 89, op := Go.Op.load 57 (Go.Operand.tmp 5), type := 57, pos := "law.go:68", after := #[{ on := 9, ground := Go.Ground.guard }], guard := some (9, true) }) (v := ?vb11) rfl (by kernel_rfl) (by kernel_rfl) (by kernel_rfl) (fun _ _ _ h => h) (Or.inl ⟨by rfl, ?rb11⟩) (by assumption) ?_
    case rb11 => (intro w hSw; (try dsimp only at hSw); (go_simp <;> with_reducible rfl))
    try simp only [Act.put, List.setIfInBounds_toArray, List.set_cons_zero, List.set_cons_succ]
    refine wpAnyH_take (i := 11) (oi := { dst := some 90, op := Go.Op.move (Go.Operand.tmp 1), type := 3, pos := "law.go:68", after := #[{ on := 9, ground := Go.Ground.guard }], guard := some (9, true) }) (v := ?vb12) rfl (by kernel_rfl) (by kernel_rfl) (by kernel_rfl) (fun _ _ _ h => h) (Or.inl ⟨by rfl, ?rb12⟩) (by assumption) ?_
    case rb12 => (intro w hSw; (try dsimp only at hSw); (go_simp <;> with_reducible rfl))
    try simp only [Act.put, List.setIfInBounds_toArray, List.set_cons_zero, List.set_cons_succ]
    refine wpAnyH_take (i := 13) (oi := { dst := some 92, op := Go.Op.move (Go.Operand.tmp 7), type := 4, pos := "law.go:68", after := #[{ on := 9, ground := Go.Ground.guard }], guard := some (9, true) }) (v := ?vb13) rfl (by kernel_rfl) (by kernel_rfl) (by kernel_rfl) (fun _ _ _ h => h) (Or.inl ⟨by rfl, ?rb13⟩) (by assumption) ?_
    case rb13 => (intro w hSw; (try dsimp only at hSw); (go_simp <;> with_reducible rfl))
    try simp only [Act.put, List.setIfInBounds_toArray, List.set_cons_zero, List.set_cons_succ]
    refine wpAnyH_ready (rs := [12]) (by kernel_rfl) (by simp) ?_
    refine AllReadyH.cons (o := { dst := some 91, op := Go.Op.call { callee := Go.Callee.value (Go.Operand.func 37), args := #[Go.Operand.tmp 89, Go.Operand.tmp 90], argTypes := #[57, 3] }, type := 4, pos := "law.go:68", after := #[{ on := 10, ground := Go.Ground.data }, { on := 11, ground := Go.Ground.data }, { on := 9, ground := Go.Ground.chain }, { on := 9, ground := Go.Ground.guard }], guard := some (9, true) }) rfl (fun K hK => ?_) AllReadyH.nil
    go_simp
    (go_at_call 37; refine (HA.out _).mono ?_; rintro e w9 ⟨rfl, hgN⟩)
    first | refine hK.out _ _ ?sb14 (fun h14 => ?_) | (go_wp2_with fail; refine hK.out _ _ ?sb14 (fun h14 => ?_))
    case sb14 => ((try dsimp only); exact HX.out _ _ hgN h7)
    clear hK K h7
    try simp only [Act.put, List.setIfInBounds_toArray, List.set_cons_zero, List.set_cons_succ]
    refine wpAnyH_take (i := 14) (oi := { dst := some 93, op := Go.Op.binOp Go.BinOp.eql 4 (Go.Operand.tmp 91) (Go.Operand.tmp 92) 4, type := 4, pos := "law.go:68", after := #[{ on := 12, ground := Go.Ground.data }, { on := 13, ground := Go.Ground.data }, { on := 9, ground := Go.Ground.guard }], guard := some (9, true) }) (v := (.bool true)) rfl (by kernel_rfl) (by kernel_rfl) (by kernel_rfl) (fun _ _ _ h => h) (Or.inl ⟨by rfl, ?rb15⟩) (by assumption) ?_
    case rb15 => (intro w hSw; (try dsimp only at hSw); go_simp; (first | done | (simp; done) | (simp; omega)))
    try simp only [Act.put, List.setIfInBounds_toArray, List.set_cons_zero, List.set_cons_succ]
    refine wpAnyH_take (i := 15) (oi := { dst := some 94, op := Go.Op.pick (Go.Operand.tmp 88) (Go.Operand.tmp 93) (Go.Operand.const (Go.Value.bool false)), type := 4, pos := "law.go:68", after := #[{ on := 9, ground := Go.Ground.data }, { on := 14, ground := Go.Ground.data }], guard := none }) (v := ?vb16) rfl (by kernel_rfl) (by kernel_rfl) (by kernel_rfl) (fun _ _ _ h => h) (Or.inl ⟨by rfl, ?rb16⟩) (by assumption) ?_
    case rb16 => (intro w hSw; (try dsimp only at hSw); (go_simp <;> with_reducible rfl))
    try simp only [Act.put, List.setIfInBounds_toArray, List.set_cons_zero, List.set_cons_succ]
    refine wpAnyH_take (i := 16) (oi := { dst := some 95, op := Go.Op.move (Go.Operand.tmp 94), type := 4, pos := "law.go:68", after := #[{ on := 15, ground := Go.Ground.data }, { on := 12, ground := Go.Ground.chain }], guard := none }) (v := ?vb17) rfl (by kernel_rfl) (by kernel_rfl) (by kernel_rfl) (fun _ _ _ h => h) (Or.inl ⟨by rfl, ?rb17⟩) (by assumption) ?_
    case rb17 => (intro w hSw; (try dsimp only at hSw); (go_simp <;> with_reducible rfl))
    try simp only [Act.put, List.setIfInBounds_toArray, List.set_cons_zero, List.set_cons_succ]
    refine wpAnyH_take (i := 17) (oi := { dst := some 96, op := Go.Op.load 57 (Go.Operand.tmp 5), type := 57, pos := "law.go:68", after := #[{ on := 16, ground := Go.Ground.guard }], guard := some (16, true) }) (v := ?vb18) rfl (by kernel_rfl) (by kernel_rfl) (by kernel_rfl) (fun _ _ _ h => h) (Or.inl ⟨by rfl, ?rb18⟩) (by assumption) ?_
    case rb18 => (intro w hSw; (try dsimp only at hSw); (go_simp <;> with_reducible rfl))
    try simp only [Act.put, List.setIfInBounds_toArray, List.set_cons_zero, List.set_cons_succ]
    refine wpAnyH_take (i := 18) (oi := { dst := some 97, op := Go.Op.move (Go.Operand.tmp 1), type := 3, pos := "law.go:68", after := #[{ on := 16, ground := Go.Ground.guard }], guard := some (16, true) }) (v := ?vb19) rfl (by kernel_rfl) (by kernel_rfl) (by kernel_rfl) (fun _ _ _ h => h) (Or.inl ⟨by rfl, ?rb19⟩) (by assumption) ?_
    case rb19 => (intro w hSw; (try dsimp only at hSw); (go_simp <;> with_reducible rfl))
    try simp only [Act.put, List.setIfInBounds_toArray, List.set_cons_zero, List.set_cons_succ]
    refine wpAnyH_take (i := 20) (oi := { dst := some 99, op := Go.Op.move (Go.Operand.tmp 8), type := 3, pos := "law.go:68", after := #[{ on := 16, ground := Go.Ground.guard }], guard := some (16, true) }) (v := ?vb20) rfl (by kernel_rfl) (by kernel_rfl) (by kernel_rfl) (fun _ _ _ h => h) (Or.inl ⟨by rfl, ?rb20⟩) (by assumption) ?_
    case rb20 => (intro w hSw; (try dsimp only at hSw); (go_simp <;> with_reducible rfl))
    try simp only [Act.put, List.setIfInBounds_toArray, List.set_cons_zero, List.set_cons_succ]
    refine wpAnyH_ready (rs := [19]) (by kernel_rfl) (by simp) ?_
    refine AllReadyH.cons (o := { dst := some 98, op := Go.Op.call { callee := Go.Callee.value (Go.Operand.func 38), args := #[Go.Operand.tmp 96, Go.Operand.tmp 97], argTypes := #[57, 3] }, type := 3, pos := "law.go:68", after := #[{ on := 17, ground := Go.Ground.data }, { on := 18, ground := Go.Ground.data }, { on := 16, ground := Go.Ground.chain }, { on := 16, ground := Go.Ground.guard }], guard := some (16, true) }) rfl (fun K hK => ?_) AllReadyH.nil
    go_simp
    (go_at_call 38; refine (RG.out _).mono ?_; rintro e w9 ⟨rfl, hgN⟩)
    first | refine hK.out _ _ ?sb21 (fun h21 => ?_) | (go_wp2_with fail; refine hK.out _ _ ?sb21 (fun h21 => ?_))
    case sb21 => ((try dsimp only); exact HX.out _ _ hgN h14)
    clear hK K h14
    try simp only [Act.put, List.setIfInBounds_toArray, List.set_cons_zero, List.set_cons_succ]
    refine wpAnyH_take (i := 21) (oi := { dst := some 100, op := Go.Op.binOp Go.BinOp.eql 3 (Go.Operand.tmp 98) (Go.Operand.tmp 99) 3, type := 4, pos := "law.go:68", after := #[{ on := 19, ground := Go.Ground.data }, { on := 20, ground := Go.Ground.data }, { on := 16, ground := Go.Ground.guard }], guard := some (16, true) }) (v := ?vb22) rfl (by kernel_rfl) (by kernel_rfl) (by kernel_rfl) (fun _ _ _ h => h) (Or.inl ⟨by rfl, ?rb22⟩) (by assumption) ?_
    case rb22 => (intro w hSw; (try dsimp only at hSw); (go_simp <;> with_reducible rfl))
    try simp only [Act.put, List.setIfInBounds_toArray, List.set_cons_zero, List.set_cons_succ]
    refine wpAnyH_take (i := 22) (oi := { dst := some 101, op := Go.Op.pick (Go.Operand.tmp 95) (Go.Operand.tmp 100) (Go.Operand.const (Go.Value.bool false)), type := 4, pos := "law.go:68", after := #[{ on := 16, ground := Go.Ground.data }, { on := 21, ground := Go.Ground.data }], guard := none }) (v := ?vb23) rfl (by kernel_rfl) (by kernel_rfl) (by kernel_rfl) (fun _ _ _ h => h) (Or.inl ⟨by rfl, ?rb23⟩) (by assumption) ?_
    case rb23 => (intro w hSw; (try dsimp only at hSw); (go_simp <;> with_reducible rfl))
    try simp only [Act.put, List.setIfInBounds_toArray, List.set_cons_zero, List.set_cons_succ]
    refine wpAnyH_take (i := 23) (oi := { dst := some 102, op := Go.Op.move (Go.Operand.tmp 101), type := 4, pos := "law.go:68", after := #[{ on := 22, ground := Go.Ground.data }, { on := 19, ground := Go.Ground.chain }], guard := none }) (v := ?vb24) rfl (by kernel_rfl) (by kernel_rfl) (by kernel_rfl) (fun _ _ _ h => h) (Or.inl ⟨by rfl, ?rb24⟩) (by assumption) ?_
    case rb24 => (intro w hSw; (try dsimp only at hSw); (go_simp <;> with_reducible rfl))
    try simp only [Act.put, List.setIfInBounds_toArray, List.set_cons_zero, List.set_cons_succ]
    refine wpAnyH_take (i := 24) (oi := { dst := some 103, op := Go.Op.load 57 (Go.Operand.tmp 5), type := 57, pos := "law.go:68", after := #[{ on := 23, ground := Go.Ground.guard }], guard := some (23, true) }) (v := ?vb25) rfl (by kernel_rfl) (by kernel_rfl) (by kernel_rfl) (fun _ _ _ h => h) (Or.inl ⟨by rfl, ?rb25⟩) (by assumption) ?_
    case rb25 => (intro w hSw; (try dsimp only at hSw); (go_simp <;> with_reducible rfl))
    try simp only [Act.put, List.setIfInBounds_toArray, List.set_cons_zero, List.set_cons_succ]
    refine wpAnyH_take (i := 26) (oi := { dst := some 105, op := Go.Op.move (Go.Operand.tmp 6), type := 3, pos := "law.go:68", after := #[{ on := 23, ground := Go.Ground.guard }], guard := some (23, true) }) (v := ?vb26) rfl (by kernel_rfl) (by kernel_rfl) (by kernel_rfl) (fun _ _ _ h => h) (Or.inl ⟨by rfl, ?rb26⟩) (by assumption) ?_
    case rb26 => (intro w hSw; (try dsimp only at hSw); (go_simp <;> with_reducible rfl))
    try simp only [Act.put, List.setIfInBounds_toArray, List.set_cons_zero, List.set_cons_succ]
    refine wpAnyH_take (i := 27) (oi := { dst := some 106, op := Go.Op.binOp Go.BinOp.shl 49 (Go.Operand.const (Go.Value.int Go.IntKind.u32 1)) (Go.Operand.tmp 105) 3, type := 49, pos := "law.go:68", after := #[{ on := 26, ground := Go.Ground.data }, { on := 23, ground := Go.Ground.guard }], guard := some (23, true) }) (v := ?vb27) rfl (by kernel_rfl) (by kernel_rfl) (by kernel_rfl) (fun _ _ _ h => h) (Or.inl ⟨by rfl, ?rb27⟩) (by assumption) ?_
    case rb27 => (intro w hSw; (try dsimp only at hSw); (go_simp <;> with_reducible rfl))
    try simp only [Act.put, List.setIfInBounds_toArray, List.set_cons_zero, List.set_cons_succ]
    refine wpAnyH_take (i := 28) (oi := { dst := some 107, op := Go.Op.binOp Go.BinOp.sub 49 (Go.Operand.tmp 106) (Go.Operand.const (Go.Value.int Go.IntKind.u32 1)) 49, type := 49, pos := "law.go:68", after := #[{ on := 27, ground := Go.Ground.data }, { on := 23, ground := Go.Ground.guard }], guard := some (23, true) }) (v := (.int .u32 (al : Nat))) rfl (by kernel_rfl) (by kernel_rfl) (by kernel_rfl) (fun _ _ _ h => h) (Or.inl ⟨by rfl, ?rb28⟩) (by assumption) ?_
    case rb28 => (intro w hSw; (try dsimp only at hSw); go_simp; (first | (simp [IntKind.wrap_u32, V28.out]; done) | (simp [IntKind.wrap_u32, V28b.out]; done)))
    try simp only [Act.put, List.setIfInBounds_toArray, List.set_cons_zero, List.set_cons_succ]
    refine wpAnyH_ready (rs := [25]) (by kernel_rfl) (by simp) ?_
    refine AllReadyH.cons (o := { dst := some 104, op := Go.Op.call { callee := Go.Callee.value (Go.Operand.func 39), args := #[Go.Operand.tmp 103], argTypes := #[57] }, type := 49, pos := "law.go:68", after := #[{ on := 24, ground := Go.Ground.data }, { on := 23, ground := Go.Ground.chain }, { on := 23, ground := Go.Ground.guard }], guard := some (23, true) }) rfl (fun K hK => ?_) AllReadyH.nil
    go_simp
    (go_at_call 39; refine (AL.out _).mono ?_; rintro e w9 ⟨rfl, hgN⟩)
    first | refine hK.out _ _ ?sb29 (fun h29 => ?_) | (go_wp2_with fail; refine hK.out _ _ ?sb29 (fun h29 => ?_))
    case sb29 => ((try dsimp only); exact HX.out _ _ hgN h21)
    clear hK K h21
    try simp only [Act.put, List.setIfInBounds_toArray, List.set_cons_zero, List.set_cons_succ]
    refine wpAnyH_take (i := 29) (oi := { dst := some 108, op := Go.Op.binOp Go.BinOp.eql 49 (Go.Operand.tmp 104) (Go.Operand.tmp 107) 49, type := 4, pos := "law.go:68", after := #[{ on := 25, ground := Go.Ground.data }, { on := 28, ground := Go.Ground.data }, { on := 23, ground := Go.Ground.guard }], guard := some (23, true) }) (v := ?vb30) rfl (by kernel_rfl) (by kernel_rfl) (by kernel_rfl) (fun _ _ _ h => h) (Or.inl ⟨by rfl, ?rb30⟩) (by assumption) ?_
    case rb30 => (intro w hSw; (try dsimp only at hSw); (go_simp <;> with_reducible rfl))
    try simp only [Act.put, List.setIfInBounds_toArray, List.set_cons_zero, List.set_cons_succ]
    refine wpAnyH_take (i := 30) (oi := { dst := some 109, op := Go.Op.pick (Go.Operand.tmp 102) (Go.Operand.tmp 108) (Go.Operand.const (Go.Value.bool false)), type := 4, pos := "law.go:68", after := #[{ on := 23, ground := Go.Ground.data }, { on := 29, ground := Go.Ground.data }], guard := none }) (v := ?vb31) rfl (by kernel_rfl) (by kernel_rfl) (by kernel_rfl) (fun _ _ _ h => h) (Or.inl ⟨by rfl, ?rb31⟩) (by assumption) ?_
    case rb31 => (intro w hSw; (try dsimp only at hSw); (go_simp <;> with_reducible rfl))
    try simp only [Act.put, List.setIfInBounds_toArray, List.set_cons_zero, List.set_cons_succ]
    refine wpAnyH_take (i := 31) (oi := { dst := some 110, op := Go.Op.move (Go.Operand.tmp 109), type := 4, pos := "law.go:68", after := #[{ on := 30, ground := Go.Ground.data }, { on := 25, ground := Go.Ground.chain }], guard := none }) (v := ?vb32) rfl (by kernel_rfl) (by kernel_rfl) (by kernel_rfl) (fun _ _ _ h => h) (Or.inl ⟨by rfl, ?rb32⟩) (by assumption) ?_
    case rb32 => (intro w hSw; (try dsimp only at hSw); (go_simp <;> with_reducible rfl))
    try simp only [Act.put, List.setIfInBounds_toArray, List.set_cons_zero, List.set_cons_succ]
    refine wpAnyH_take (i := 32) (oi := { dst := some 111, op := Go.Op.load 57 (Go.Operand.tmp 5), type := 57, pos := "law.go:68", after := #[{ on := 31, ground := Go.Ground.guard }], guard := some (31, true) }) (v := ?vb33) rfl (by kernel_rfl) (by kernel_rfl) (by kernel_rfl) (fun _ _ _ h => h) (Or.inl ⟨by rfl, ?rb33⟩) (by assumption) ?_
    case rb33 => (intro w hSw; (try dsimp only at hSw); (go_simp <;> with_reducible rfl))
    try simp only [Act.put, List.setIfInBounds_toArray, List.set_cons_zero, List.set_cons_succ]
    refine wpAnyH_take (i := 34) (oi := { dst := some 113, op := Go.Op.fieldAddr 53 (Go.Operand.tmp 2) 2, type := 0, pos := "law.go:68", after := #[{ on := 31, ground := Go.Ground.guard }], guard := some (31, true) }) (v := ?vb34) rfl (by kernel_rfl) (by kernel_rfl) (by kernel_rfl) (fun _ _ _ h => h) (Or.inl ⟨by rfl, ?rb34⟩) (by assumption) ?_
    case rb34 => (intro w hSw; (try dsimp only at hSw); (go_simp <;> with_reducible rfl))
    try simp only [Act.put, List.setIfInBounds_toArray, List.set_cons_zero, List.set_cons_succ]
    refine wpAnyH_take (i := 35) (oi := { dst := some 114, op := Go.Op.load 49 (Go.Operand.tmp 113), type := 49, pos := "law.go:68", after := #[{ on := 34, ground := Go.Ground.data }, { on := 31, ground := Go.Ground.guard }], guard := some (31, true) }) (v := ?vb35) rfl (by kernel_rfl) (by kernel_rfl) (by kernel_rfl) (fun _ _ _ h => h) (Or.inl ⟨by rfl, ?rb35⟩) (by assumption) ?_
    case rb35 => (intro w hSw; (try dsimp only at hSw); (go_simp <;> with_reducible rfl))
    try simp only [Act.put, List.setIfInBounds_toArray, List.set_cons_zero, List.set_cons_succ]
    refine wpAnyH_ready (rs := [33]) (by kernel_rfl) (by simp) ?_
    refine AllReadyH.cons (o := { dst := some 112, op := Go.Op.call { callee := Go.Callee.value (Go.Operand.func 40), args := #[Go.Operand.tmp 111], argTypes := #[57] }, type := 49, pos := "law.go:68", after := #[{ on := 32, ground := Go.Ground.data }, { on := 31, ground := Go.Ground.chain }, { on := 31, ground := Go.Ground.guard }], guard := some (31, true) }) rfl (fun K hK => ?_) AllReadyH.nil
    go_simp
    (go_at_call 40; refine (WI.out _).mono ?_; rintro e w9 ⟨rfl, hgN⟩)
    first | refine hK.out _ _ ?sb36 (fun h36 => ?_) | (go_wp2_with fail; refine hK.out _ _ ?sb36 (fun h36 => ?_))
    case sb36 => ((try dsimp only); exact HX.out _ _ hgN h29)
    clear hK K h29
    try simp only [Act.put, List.setIfInBounds_toArray, List.set_cons_zero, List.set_cons_succ]
    refine wpAnyH_take (i := 36) (oi := { dst := some 115, op := Go.Op.binOp Go.BinOp.eql 49 (Go.Operand.tmp 112) (Go.Operand.tmp 114) 49, type := 4, pos := "law.go:68", after := #[{ on := 33, ground := Go.Ground.data }, { on := 35, ground := Go.Ground.data }, { on := 31, ground := Go.Ground.guard }], guard := some (31, true) }) (v := ?vb37) rfl (by kernel_rfl) (by kernel_rfl) (by kernel_rfl) (fun _ _ _ h => h) (Or.inl ⟨by rfl, ?rb37⟩) (by assumption) ?_
    case rb37 => (intro w hSw; (try dsimp only at hSw); (go_simp <;> with_reducible rfl))
    try simp only [Act.put, List.setIfInBounds_toArray, List.set_cons_zero, List.set_cons_succ]
    refine wpAnyH_take (i := 37) (oi := { dst := some 116, op := Go.Op.pick (Go.Operand.tmp 110) (Go.Operand.tmp 115) (Go.Operand.const (Go.Value.bool false)), type := 4, pos := "law.go:68", after := #[{ on := 31, ground := Go.Ground.data }, { on := 36, ground := Go.Ground.data }], guard := none }) (v := ?vb38) rfl (by kernel_rfl) (by kernel_rfl) (by kernel_rfl) (fun _ _ _ h => h) (Or.inl ⟨by rfl, ?rb38⟩) (by assumption) ?_
    case rb38 => (intro w hSw; (try dsimp only at hSw); (go_simp <;> with_reducible rfl))
    try simp only [Act.put, List.setIfInBounds_toArray, List.set_cons_zero, List.set_cons_succ]
    refine wpAnyH_take (i := 38) (oi := { dst := some 4, op := Go.Op.assign (Go.Operand.tmp 116), type := 4, pos := "law.go:68", after := #[{ on := 37, ground := Go.Ground.data }, { on := 33, ground := Go.Ground.chain }, { on := 0, ground := Go.Ground.phase }, { on := 1, ground := Go.Ground.phase }, { on := 2, ground := Go.Ground.phase }, { on := 3, ground := Go.Ground.phase }, { on := 4, ground := Go.Ground.phase }, { on := 5, ground := Go.Ground.phase }, { on := 6, ground := Go.Ground.phase }, { on := 7, ground := Go.Ground.phase }, { on := 8, ground := Go.Ground.phase }, { on := 9, ground := Go.Ground.phase }, { on := 10, ground := Go.Ground.phase }, { on := 11, ground := Go.Ground.phase }, { on := 12, ground := Go.Ground.phase }, { on := 13, ground := Go.Ground.phase }, { on := 14, ground := Go.Ground.phase }, { on := 15, ground := Go.Ground.phase }, { on := 16, ground := Go.Ground.phase }, { on := 17, ground := Go.Ground.phase }, { on := 18, ground := Go.Ground.phase }, { on := 19, ground := Go.Ground.phase }, { on := 20, ground := Go.Ground.phase }, { on := 21, ground := Go.Ground.phase }, { on := 22, ground := Go.Ground.phase }, { on := 23, ground := Go.Ground.phase }, { on := 24, ground := Go.Ground.phase }, { on := 25, ground := Go.Ground.phase }, { on := 26, ground := Go.Ground.phase }, { on := 27, ground := Go.Ground.phase }, { on := 28, ground := Go.Ground.phase }, { on := 29, ground := Go.Ground.phase }, { on := 30, ground := Go.Ground.phase }, { on := 31, ground := Go.Ground.phase }, { on := 32, ground := Go.Ground.phase }, { on := 33, ground := Go.Ground.phase }, { on := 34, ground := Go.Ground.phase }, { on := 35, ground := Go.Ground.phase }, { on := 36, ground := Go.Ground.phase }, { on := 37, ground := Go.Ground.phase }], guard := none }) (v := ?vb39) rfl (by kernel_rfl) (by kernel_rfl) (by kernel_rfl) (fun _ _ _ h => h) (Or.inl ⟨by rfl, ?rb39⟩) (by assumption) ?_
    case rb39 => (intro w hSw; (try dsimp only at hSw); (go_simp <;> with_reducible rfl))
    try simp only [Act.put, List.setIfInBounds_toArray, List.set_cons_zero, List.set_cons_succ]
    refine wpAnyH_done (by kernel_rfl) ?_ _
    have G9 := Lib.hid (h36).1
    clear h36
    go_wp2
    go_ret
    exact ⟨rfl, HZ.out.trans G9.out⟩
  · rw [hd] at HA
    clear hd
    obtain ⟨k, rfl⟩ := Int.eq_ofNat_of_zero_le n0
    have RG := Lib.hid (regionOf_yes k p (by omega) (by omega) HA.out)
    have q1 : 0 ≤ (k : Int) / (p : Int) := Int.natCast_nonneg (k / p)
    have q2 : (k : Int) / (p : Int) ≤ 16 := by
      have := Nat.div_le_self k p
      have e : (k : Int) / (p : Int) = ((k / p : Nat) : Int) := rfl
      omega
    go_wp2
    obtain ⟨⟨q0, q1, q2, q3, q4, q5, q6⟩, hoth, hfr, hgr⟩ := put7 v0 v1 v2 v3 v4 v5 v6 (rfl : (((((((w7.setCell ⟨w2.heap.size, 0, none⟩ (.int .i64 (r : Nat))).setCell ⟨w2.heap.size, 1, none⟩ (.int .i64 (p : Nat))).setCell ⟨w2.heap.size, 2, none⟩ (.int .u32 (W' : Nat))).setCell ⟨w2.heap.size, 3, none⟩ (.int .i64 (y1 : Nat))).setCell ⟨w2.heap.size, 4, none⟩ (.int .i64 (y2 : Nat))).setCell ⟨w2.heap.size, 5, none⟩ (.int .i64 (y3 : Nat))).setCell ⟨w2.heap.size, 6, none⟩ (.int .i64 (y4 : Nat))) = _)
    have HZ := Lib.hid (hgr _ HG7.out (Nat.le_of_lt HLT.out))
    replace x0 := hoth _ _ _ hne' x0
    replace x1 := hoth _ _ _ hne' x1
    replace x2 := hoth _ _ _ hne' x2
    replace x3 := hoth _ _ _ hne' x3
    replace x4 := hoth _ _ _ hne' x4
    replace x5 := hoth _ _ _ hne' x5
    replace x6 := hoth _ _ _ hne' x6
    clear v0 v1 v2 v3 v4 v5 v6 g0 g1 g2 g3 g4 g5 g6 hoth hfr hgr
    generalize (((((((w7.setCell ⟨w2.heap.size, 0, none⟩ (.int .i64 (r : Nat))).setCell ⟨w2.heap.size, 1, none⟩ (.int .i64 (p : Nat))).setCell ⟨w2.heap.size, 2, none⟩ (.int .u32 (W' : Nat))).setCell ⟨w2.heap.size, 3, none⟩ (.int .i64 (y1 : Nat))).setCell ⟨w2.heap.size, 4, none⟩ (.int .i64 (y2 : Nat))).setCell ⟨w2.heap.size, 5, none⟩ (.int .i64 (y3 : Nat))).setCell ⟨w2.heap.size, 6, none⟩ (.int .i64 (y4 : Nat))) = wz at *
    generalize w2.heap.size = c at *
    generalize w.heap.size = b at *
    have HX : Hid (∀ w0 w9 : World, Gr w0 w9 → (fun w9 => Gr wz w9 ∧ w9.cell? ⟨b, 0, none⟩ = some (.int .i64 (r : Nat)) ∧ w9.cell? ⟨b, 1, none⟩ = some (.int .i64 (p : Nat)) ∧ w9.cell? ⟨b, 2, none⟩ = some (.int .u32 (W' : Nat)) ∧ w9.cell? ⟨b, 3, none⟩ = some (.int .i64 (y1 : Nat)) ∧ w9.cell? ⟨b, 4, none⟩ = some (.int .i64 (y2 : Nat)) ∧ w9.cell? ⟨b, 5, none⟩ = some (.int .i64 (y3 : Nat)) ∧ w9.cell? ⟨b, 6, none⟩ = some (.int .i64 (y4 : Nat)) ∧ w9.cell? ⟨c, 0, none⟩ = some (.int .i64 (r : Nat)) ∧ w9.cell? ⟨c, 1, none⟩ = some (.int .i64 (p : Nat)) ∧ w9.cell? ⟨c, 2, none⟩ = some (.int .u32 (W' : Nat)) ∧ w9.cell? ⟨c, 3, none⟩ = some (.int .i64 (y1 : Nat)) ∧ w9.cell? ⟨c, 4, none⟩ = some (.int .i64 (y2 : Nat)) ∧ w9.cell? ⟨c, 5, none⟩ = some (.int .i64 (y3 : Nat)) ∧ w9.cell? ⟨c, 6, none⟩ = some (.int .i64 (y4 : Nat))) w0 → (fun w9 => Gr wz w9 ∧ w9.cell? ⟨b, 0, none⟩ = some (.int .i64 (r : Nat)) ∧ w9.cell? ⟨b, 1, none⟩ = some (.int .i64 (p : Nat)) ∧ w9.cell? ⟨b, 2, none⟩ = some (.int .u32 (W' : Nat)) ∧ w9.cell? ⟨b, 3, none⟩ = some (.int .i64 (y1 : Nat)) ∧ w9.cell? ⟨b, 4, none⟩ = some (.int .i64 (y2 : Nat)) ∧ w9.cell? ⟨b, 5, none⟩ = some (.int .i64 (y3 : Nat)) ∧ w9.cell? ⟨b, 6, none⟩ = some (.int .i64 (y4 : Nat)) ∧ w9.cell? ⟨c, 0, none⟩ = some (.int .i64 (r : Nat)) ∧ w9.cell? ⟨c, 1, none⟩ = some (.int .i64 (p : Nat)) ∧ w9.cell? ⟨c, 2, none⟩ = some (.int .u32 (W' : Nat)) ∧ w9.cell? ⟨c, 3, none⟩ = some (.int .i64 (y1 : Nat)) ∧ w9.cell? ⟨c, 4, none⟩ = some (.int .i64 (y2 : Nat)) ∧ w9.cell? ⟨c, 5, none⟩ = some (.int .i64 (y3 : Nat)) ∧ w9.cell? ⟨c, 6, none⟩ = some (.int .i64 (y4 : Nat))) w9) := Lib.hid fun w0 w9 hg ⟨h, q0, q1, q2, q3, q4, q5, q6, q7, q8, q9, q10, q11, q12, q13⟩ => ⟨h.trans hg, hg.cell q0, hg.cell q1, hg.cell q2, hg.cell q3, hg.cell q4, hg.cell q5, hg.cell q6, hg.cell q7, hg.cell q8, hg.cell q9, hg.cell q10, hg.cell q11, hg.cell q12, hg.cell q13⟩
    have HS0 := And.intro (Gr.refl wz) (And.intro (x0) (And.intro (x1) (And.intro (x2) (And.intro (x3) (And.intro (x4) (And.intro (x5) (And.intro (x6) (And.intro (q0) (And.intro (q1) (And.intro (q2) (And.intro (q3) (And.intro (q4) (And.intro (q5) (q6))))))))))))))
    clear x0 x1 x2 x3 x4 x5 x6 q0 q1 q2 q3 q4 q5 q6
    refine wp_region_held_drew (S := (fun w9 => Gr wz w9 ∧ w9.cell? ⟨b, 0, none⟩ = some (.int .i64 (r : Nat)) ∧ w9.cell? ⟨b, 1, none⟩ = some (.int .i64 (p : Nat)) ∧ w9.cell? ⟨b, 2, none⟩ = some (.int .u32 (W' : Nat)) ∧ w9.cell? ⟨b, 3, none⟩ = some (.int .i64 (y1 : Nat)) ∧ w9.cell? ⟨b, 4, none⟩ = some (.int .i64 (y2 : Nat)) ∧ w9.cell? ⟨b, 5, none⟩ = some (.int .i64 (y3 : Nat)) ∧ w9.cell? ⟨b, 6, none⟩ = some (.int .i64 (y4 : Nat)) ∧ w9.cell? ⟨c, 0, none⟩ = some (.int .i64 (r : Nat)) ∧ w9.cell? ⟨c, 1, none⟩ = some (.int .i64 (p : Nat)) ∧ w9.cell? ⟨c, 2, none⟩ = some (.int .u32 (W' : Nat)) ∧ w9.cell? ⟨c, 3, none⟩ = some (.int .i64 (y1 : Nat)) ∧ w9.cell? ⟨c, 4, none⟩ = some (.int .i64 (y2 : Nat)) ∧ w9.cell? ⟨c, 5, none⟩ = some (.int .i64 (y3 : Nat)) ∧ w9.cell? ⟨c, 6, none⟩ = some (.int .i64 (y4 : Nat)))) (by kernel_rfl) ?invc (fun h0 => ?_)
    case invc => ((try dsimp only); (first | exact HS0 | exact HX.out _ _ ((Gr.refl _).drew) HS0))
    refine wpAnyH_take (i := 0) (oi := { dst := some 79, op := Go.Op.load 57 (Go.Operand.tmp 5), type := 57, pos := "law.go:68", after := #[], guard := none }) (v := ?vc1) rfl (by kernel_rfl) (by kernel_rfl) (by kernel_rfl) (fun _ _ _ h => h) (Or.inl ⟨by rfl, ?rc1⟩) (by assumption) ?_
    case rc1 => (intro w hSw; (try dsimp only at hSw); (go_simp <;> with_reducible rfl))
    try simp only [Act.put, List.setIfInBounds_toArray, List.set_cons_zero, List.set_cons_succ]
    refine wpAnyH_ready (rs := [1]) (by kernel_rfl) (by simp) ?_
    refine AllReadyH.cons (o := { dst := some 80, op := Go.Op.call { callee := Go.Callee.value (Go.Operand.func 33), args := #[Go.Operand.tmp 79], argTypes := #[57] }, type := 44, pos := "law.go:68", after := #[{ on := 0, ground := Go.Ground.data }], guard := none }) rfl (fun K hK => ?_) AllReadyH.nil
    go_simp
    (go_at_call 33; refine (CH.out _).mono ?_; rintro e w9 ⟨rfl, hgN⟩)
    first | refine hK.out _ _ ?sc2 (fun h2 => ?_) | (go_wp2_with fail; refine hK.out _ _ ?sc2 (fun h2 => ?_))
    case sc2 => ((try dsimp only); exact HX.out _ _ hgN h0)
    clear hK K h0
    try simp only [Act.put, List.setIfInBounds_toArray, List.set_cons_zero, List.set_cons_succ]
    refine wpAnyH_take (i := 2) (oi := { dst := some 81, op := Go.Op.binOp Go.BinOp.eql 44 (Go.Operand.tmp 80) (Go.Operand.const (Go.Value.int Go.IntKind.i64 0)) 44, type := 4, pos := "law.go:68", after := #[{ on := 1, ground := Go.Ground.data }], guard := none }) (v := ?vc3) rfl (by kernel_rfl) (by kernel_rfl) (by kernel_rfl) (fun _ _ _ h => h) (Or.inl ⟨by rfl, ?rc3⟩) (by assumption) ?_
    case rc3 => (intro w hSw; (try dsimp only at hSw); (go_simp <;> with_reducible rfl))
    try simp only [Act.put, List.setIfInBounds_toArray, List.set_cons_zero, List.set_cons_succ]
    refine wpAnyH_take (i := 3) (oi := { dst := some 82, op := Go.Op.move (Go.Operand.tmp 81), type := 4, pos := "law.go:68", after := #[{ on := 2, ground := Go.Ground.data }, { on := 1, ground := Go.Ground.chain }], guard := none }) (v := ?vc4) rfl (by kernel_rfl) (by kernel_rfl) (by kernel_rfl) (fun _ _ _ h => h) (Or.inl ⟨by rfl, ?rc4⟩) (by assumption) ?_
    case rc4 => (intro w hSw; (try dsimp only at hSw); (go_simp <;> with_reducible rfl))
    try simp only [Act.put, List.setIfInBounds_toArray, List.set_cons_zero, List.set_cons_succ]
    refine wpAnyH_take (i := 4) (oi := { dst := some 83, op := Go.Op.load 57 (Go.Operand.tmp 5), type := 57, pos := "law.go:68", after := #[{ on := 3, ground := Go.Ground.guard }], guard := some (3, true) }) (v := ?vc5) rfl (by kernel_rfl) (by kernel_rfl) (by kernel_rfl) (fun _ _ _ h => h) (Or.inl ⟨by rfl, ?rc5⟩) (by assumption) ?_
    case rc5 => (intro w hSw; (try dsimp only at hSw); (go_simp <;> with_reducible rfl))
    try simp only [Act.put, List.setIfInBounds_toArray, List.set_cons_zero, List.set_cons_succ]
    refine wpAnyH_take (i := 6) (oi := { dst := some 85, op := Go.Op.move (Go.Operand.tmp 6), type := 3, pos := "law.go:68", after := #[{ on := 3, ground := Go.Ground.guard }], guard := some (3, true) }) (v := ?vc6) rfl (by kernel_rfl) (by kernel_rfl) (by kernel_rfl) (fun _ _ _ h => h) (Or.inl ⟨by rfl, ?rc6⟩) (by assumption) ?_
    case rc6 => (intro w hSw; (try dsimp only at hSw); (go_simp <;> with_reducible rfl))
    try simp only [Act.put, List.setIfInBounds_toArray, List.set_cons_zero, List.set_cons_succ]
    refine wpAnyH_ready (rs := [5]) (by kernel_rfl) (by simp) ?_
    refine AllReadyH.cons (o := { dst := some 84, op := Go.Op.call { callee := Go.Callee.value (Go.Operand.func 36), args := #[Go.Operand.tmp 83], argTypes := #[57] }, type := 3, pos := "law.go:68", after := #[{ on := 4, ground := Go.Ground.data }, { on := 3, ground := Go.Ground.chain }, { on := 3, ground := Go.Ground.guard }], guard := some (3, true) }) rfl (fun K hK => ?_) AllReadyH.nil
    go_simp
    (go_at_call 36; refine (LN.out _).mono ?_; rintro e w9 ⟨rfl, hgN⟩)
    first | refine hK.out _ _ ?sc7 (fun h7 => ?_) | (go_wp2_with fail; refine hK.out _ _ ?sc7 (fun h7 => ?_))
    case sc7 => ((try dsimp only); exact HX.out _ _ hgN h2)
    clear hK K h2
    try simp only [Act.put, List.setIfInBounds_toArray, List.set_cons_zero, List.set_cons_succ]
    refine wpAnyH_take (i := 7) (oi := { dst := some 86, op := Go.Op.binOp Go.BinOp.eql 3 (Go.Operand.tmp 84) (Go.Operand.tmp 85) 3, type := 4, pos := "law.go:68", after := #[{ on := 5, ground := Go.Ground.data }, { on := 6, ground := Go.Ground.data }, { on := 3, ground := Go.Ground.guard }], guard := some (3, true) }) (v := ?vc8) rfl (by kernel_rfl) (by kernel_rfl) (by kernel_rfl) (fun _ _ _ h => h) (Or.inl ⟨by rfl, ?rc8⟩) (by assumption) ?_
    case rc8 => (intro w hSw; (try dsimp only at hSw); (go_simp <;> with_reducible rfl))
    try simp only [Act.put, List.setIfInBounds_toArray, List.set_cons_zero, List.set_cons_succ]
    refine wpAnyH_take (i := 8) (oi := { dst := some 87, op := Go.Op.pick (Go.Operand.tmp 82) (Go.Operand.tmp 86) (Go.Operand.const (Go.Value.bool false)), type := 4, pos := "law.go:68", after := #[{ on := 3, ground := Go.Ground.data }, { on := 7, ground := Go.Ground.data }], guard := none }) (v := ?vc9) rfl (by kernel_rfl) (by kernel_rfl) (by kernel_rfl) (fun _ _ _ h => h) (Or.inl ⟨by rfl, ?rc9⟩) (by assumption) ?_
    case rc9 => (intro w hSw; (try dsimp only at hSw); (go_simp <;> with_reducible rfl))
    try simp only [Act.put, List.setIfInBounds_toArray, List.set_cons_zero, List.set_cons_succ]
    refine wpAnyH_take (i := 9) (oi := { dst := some 88, op := Go.Op.move (Go.Operand.tmp 87), type := 4, pos := "law.go:68", after := #[{ on := 8, ground := Go.Ground.data }, { on := 5, ground := Go.Ground.chain }], guard := none }) (v := ?vc10) rfl (by kernel_rfl) (by kernel_rfl) (by kernel_rfl) (fun _ _ _ h => h) (Or.inl ⟨by rfl, ?rc10⟩) (by assumption) ?_
    case rc10 => (intro w hSw; (try dsimp only at hSw); (go_simp <;> with_reducible rfl))
    try simp only [Act.put, List.setIfInBounds_toArray, List.set_cons_zero, List.set_cons_succ]
    refine wpAnyH_take (i := 10) (oi := { dst := some 89, op := Go.Op.load 57 (Go.Operand.tmp 5), type := 57, pos := "law.go:68", after := #[{ on := 9, ground := Go.Ground.guard }], guard := some (9, true) }) (v := ?vc11) rfl (by kernel_rfl) (by kernel_rfl) (by kernel_rfl) (fun _ _ _ h => h) (Or.inl ⟨by rfl, ?rc11⟩) (by assumption) ?_
    case rc11 => (intro w hSw; (try dsimp only at hSw); (go_simp <;> with_reducible rfl))
    try simp only [Act.put, List.setIfInBounds_toArray, List.set_cons_zero, List.set_cons_succ]
    refine wpAnyH_take (i := 11) (oi := { dst := some 90, op := Go.Op.move (Go.Operand.tmp 1), type := 3, pos := "law.go:68", after := #[{ on := 9, ground := Go.Ground.guard }], guard := some (9, true) }) (v := ?vc12) rfl (by kernel_rfl) (by kernel_rfl) (by kernel_rfl) (fun _ _ _ h => h) (Or.inl ⟨by rfl, ?rc12⟩) (by assumption) ?_
    case rc12 => (intro w hSw; (try dsimp only at hSw); (go_simp <;> with_reducible rfl))
    try simp only [Act.put, List.setIfInBounds_toArray, List.set_cons_zero, List.set_cons_succ]
    refine wpAnyH_take (i := 13) (oi := { dst := some 92, op := Go.Op.move (Go.Operand.tmp 7), type := 4, pos := "law.go:68", after := #[{ on := 9, ground := Go.Ground.guard }], guard := some (9, true) }) (v := ?vc13) rfl (by kernel_rfl) (by kernel_rfl) (by kernel_rfl) (fun _ _ _ h => h) (Or.inl ⟨by rfl, ?rc13⟩) (by assumption) ?_
    case rc13 => (intro w hSw; (try dsimp only at hSw); (go_simp <;> with_reducible rfl))
    try simp only [Act.put, List.setIfInBounds_toArray, List.set_cons_zero, List.set_cons_succ]
    refine wpAnyH_ready (rs := [12]) (by kernel_rfl) (by simp) ?_
    refine AllReadyH.cons (o := { dst := some 91, op := Go.Op.call { callee := Go.Callee.value (Go.Operand.func 37), args := #[Go.Operand.tmp 89, Go.Operand.tmp 90], argTypes := #[57, 3] }, type := 4, pos := "law.go:68", after := #[{ on := 10, ground := Go.Ground.data }, { on := 11, ground := Go.Ground.data }, { on := 9, ground := Go.Ground.chain }, { on := 9, ground := Go.Ground.guard }], guard := some (9, true) }) rfl (fun K hK => ?_) AllReadyH.nil
    go_simp
    (go_at_call 37; refine (HA.out _).mono ?_; rintro e w9 ⟨rfl, hgN⟩)
    first | refine hK.out _ _ ?sc14 (fun h14 => ?_) | (go_wp2_with fail; refine hK.out _ _ ?sc14 (fun h14 => ?_))
    case sc14 => ((try dsimp only); exact HX.out _ _ hgN h7)
    clear hK K h7
    try simp only [Act.put, List.setIfInBounds_toArray, List.set_cons_zero, List.set_cons_succ]
    refine wpAnyH_take (i := 14) (oi := { dst := some 93, op := Go.Op.binOp Go.BinOp.eql 4 (Go.Operand.tmp 91) (Go.Operand.tmp 92) 4, type := 4, pos := "law.go:68", after := #[{ on := 12, ground := Go.Ground.data }, { on := 13, ground := Go.Ground.data }, { on := 9, ground := Go.Ground.guard }], guard := some (9, true) }) (v := (.bool true)) rfl (by kernel_rfl) (by kernel_rfl) (by kernel_rfl) (fun _ _ _ h => h) (Or.inl ⟨by rfl, ?rc15⟩) (by assumption) ?_
    case rc15 => (intro w hSw; (try dsimp only at hSw); go_simp; (first | done | (simp; done) | (simp; omega)))
    try simp only [Act.put, List.setIfInBounds_toArray, List.set_cons_zero, List.set_cons_succ]
    refine wpAnyH_take (i := 15) (oi := { dst := some 94, op := Go.Op.pick (Go.Operand.tmp 88) (Go.Operand.tmp 93) (Go.Operand.const (Go.Value.bool false)), type := 4, pos := "law.go:68", after := #[{ on := 9, ground := Go.Ground.data }, { on := 14, ground := Go.Ground.data }], guard := none }) (v := ?vc16) rfl (by kernel_rfl) (by kernel_rfl) (by kernel_rfl) (fun _ _ _ h => h) (Or.inl ⟨by rfl, ?rc16⟩) (by assumption) ?_
    case rc16 => (intro w hSw; (try dsimp only at hSw); (go_simp <;> with_reducible rfl))
    try simp only [Act.put, List.setIfInBounds_toArray, List.set_cons_zero, List.set_cons_succ]
    refine wpAnyH_take (i := 16) (oi := { dst := some 95, op := Go.Op.move (Go.Operand.tmp 94), type := 4, pos := "law.go:68", after := #[{ on := 15, ground := Go.Ground.data }, { on := 12, ground := Go.Ground.chain }], guard := none }) (v := ?vc17) rfl (by kernel_rfl) (by kernel_rfl) (by kernel_rfl) (fun _ _ _ h => h) (Or.inl ⟨by rfl, ?rc17⟩) (by assumption) ?_
    case rc17 => (intro w hSw; (try dsimp only at hSw); (go_simp <;> with_reducible rfl))
    try simp only [Act.put, List.setIfInBounds_toArray, List.set_cons_zero, List.set_cons_succ]
    refine wpAnyH_take (i := 17) (oi := { dst := some 96, op := Go.Op.load 57 (Go.Operand.tmp 5), type := 57, pos := "law.go:68", after := #[{ on := 16, ground := Go.Ground.guard }], guard := some (16, true) }) (v := ?vc18) rfl (by kernel_rfl) (by kernel_rfl) (by kernel_rfl) (fun _ _ _ h => h) (Or.inl ⟨by rfl, ?rc18⟩) (by assumption) ?_
    case rc18 => (intro w hSw; (try dsimp only at hSw); (go_simp <;> with_reducible rfl))
    try simp only [Act.put, List.setIfInBounds_toArray, List.set_cons_zero, List.set_cons_succ]
    refine wpAnyH_take (i := 18) (oi := { dst := some 97, op := Go.Op.move (Go.Operand.tmp 1), type := 3, pos := "law.go:68", after := #[{ on := 16, ground := Go.Ground.guard }], guard := some (16, true) }) (v := ?vc19) rfl (by kernel_rfl) (by kernel_rfl) (by kernel_rfl) (fun _ _ _ h => h) (Or.inl ⟨by rfl, ?rc19⟩) (by assumption) ?_
    case rc19 => (intro w hSw; (try dsimp only at hSw); (go_simp <;> with_reducible rfl))
    try simp only [Act.put, List.setIfInBounds_toArray, List.set_cons_zero, List.set_cons_succ]
    refine wpAnyH_take (i := 20) (oi := { dst := some 99, op := Go.Op.move (Go.Operand.tmp 8), type := 3, pos := "law.go:68", after := #[{ on := 16, ground := Go.Ground.guard }], guard := some (16, true) }) (v := ?vc20) rfl (by kernel_rfl) (by kernel_rfl) (by kernel_rfl) (fun _ _ _ h => h) (Or.inl ⟨by rfl, ?rc20⟩) (by assumption) ?_
    case rc20 => (intro w hSw; (try dsimp only at hSw); (go_simp <;> with_reducible rfl))
    try simp only [Act.put, List.setIfInBounds_toArray, List.set_cons_zero, List.set_cons_succ]
    refine wpAnyH_ready (rs := [19]) (by kernel_rfl) (by simp) ?_
    refine AllReadyH.cons (o := { dst := some 98, op := Go.Op.call { callee := Go.Callee.value (Go.Operand.func 38), args := #[Go.Operand.tmp 96, Go.Operand.tmp 97], argTypes := #[57, 3] }, type := 3, pos := "law.go:68", after := #[{ on := 17, ground := Go.Ground.data }, { on := 18, ground := Go.Ground.data }, { on := 16, ground := Go.Ground.chain }, { on := 16, ground := Go.Ground.guard }], guard := some (16, true) }) rfl (fun K hK => ?_) AllReadyH.nil
    go_simp
    (go_at_call 38; refine (RG.out _).mono ?_; rintro e w9 ⟨rfl, hgN⟩)
    first | refine hK.out _ _ ?sc21 (fun h21 => ?_) | (go_wp2_with fail; refine hK.out _ _ ?sc21 (fun h21 => ?_))
    case sc21 => ((try dsimp only); exact HX.out _ _ hgN h14)
    clear hK K h14
    try simp only [Act.put, List.setIfInBounds_toArray, List.set_cons_zero, List.set_cons_succ]
    refine wpAnyH_take (i := 21) (oi := { dst := some 100, op := Go.Op.binOp Go.BinOp.eql 3 (Go.Operand.tmp 98) (Go.Operand.tmp 99) 3, type := 4, pos := "law.go:68", after := #[{ on := 19, ground := Go.Ground.data }, { on := 20, ground := Go.Ground.data }, { on := 16, ground := Go.Ground.guard }], guard := some (16, true) }) (v := ?vc22) rfl (by kernel_rfl) (by kernel_rfl) (by kernel_rfl) (fun _ _ _ h => h) (Or.inl ⟨by rfl, ?rc22⟩) (by assumption) ?_
    case rc22 => (intro w hSw; (try dsimp only at hSw); (go_simp <;> with_reducible rfl))
    try simp only [Act.put, List.setIfInBounds_toArray, List.set_cons_zero, List.set_cons_succ]
    refine wpAnyH_take (i := 22) (oi := { dst := some 101, op := Go.Op.pick (Go.Operand.tmp 95) (Go.Operand.tmp 100) (Go.Operand.const (Go.Value.bool false)), type := 4, pos := "law.go:68", after := #[{ on := 16, ground := Go.Ground.data }, { on := 21, ground := Go.Ground.data }], guard := none }) (v := ?vc23) rfl (by kernel_rfl) (by kernel_rfl) (by kernel_rfl) (fun _ _ _ h => h) (Or.inl ⟨by rfl, ?rc23⟩) (by assumption) ?_
    case rc23 => (intro w hSw; (try dsimp only at hSw); (go_simp <;> with_reducible rfl))
    try simp only [Act.put, List.setIfInBounds_toArray, List.set_cons_zero, List.set_cons_succ]
    refine wpAnyH_take (i := 23) (oi := { dst := some 102, op := Go.Op.move (Go.Operand.tmp 101), type := 4, pos := "law.go:68", after := #[{ on := 22, ground := Go.Ground.data }, { on := 19, ground := Go.Ground.chain }], guard := none }) (v := ?vc24) rfl (by kernel_rfl) (by kernel_rfl) (by kernel_rfl) (fun _ _ _ h => h) (Or.inl ⟨by rfl, ?rc24⟩) (by assumption) ?_
    case rc24 => (intro w hSw; (try dsimp only at hSw); (go_simp <;> with_reducible rfl))
    try simp only [Act.put, List.setIfInBounds_toArray, List.set_cons_zero, List.set_cons_succ]
    refine wpAnyH_take (i := 24) (oi := { dst := some 103, op := Go.Op.load 57 (Go.Operand.tmp 5), type := 57, pos := "law.go:68", after := #[{ on := 23, ground := Go.Ground.guard }], guard := some (23, true) }) (v := ?vc25) rfl (by kernel_rfl) (by kernel_rfl) (by kernel_rfl) (fun _ _ _ h => h) (Or.inl ⟨by rfl, ?rc25⟩) (by assumption) ?_
    case rc25 => (intro w hSw; (try dsimp only at hSw); (go_simp <;> with_reducible rfl))
    try simp only [Act.put, List.setIfInBounds_toArray, List.set_cons_zero, List.set_cons_succ]
    refine wpAnyH_take (i := 26) (oi := { dst := some 105, op := Go.Op.move (Go.Operand.tmp 6), type := 3, pos := "law.go:68", after := #[{ on := 23, ground := Go.Ground.guard }], guard := some (23, true) }) (v := ?vc26) rfl (by kernel_rfl) (by kernel_rfl) (by kernel_rfl) (fun _ _ _ h => h) (Or.inl ⟨by rfl, ?rc26⟩) (by assumption) ?_
    case rc26 => (intro w hSw; (try dsimp only at hSw); (go_simp <;> with_reducible rfl))
    try simp only [Act.put, List.setIfInBounds_toArray, List.set_cons_zero, List.set_cons_succ]
    refine wpAnyH_take (i := 27) (oi := { dst := some 106, op := Go.Op.binOp Go.BinOp.shl 49 (Go.Operand.const (Go.Value.int Go.IntKind.u32 1)) (Go.Operand.tmp 105) 3, type := 49, pos := "law.go:68", after := #[{ on := 26, ground := Go.Ground.data }, { on := 23, ground := Go.Ground.guard }], guard := some (23, true) }) (v := ?vc27) rfl (by kernel_rfl) (by kernel_rfl) (by kernel_rfl) (fun _ _ _ h => h) (Or.inl ⟨by rfl, ?rc27⟩) (by assumption) ?_
    case rc27 => (intro w hSw; (try dsimp only at hSw); (go_simp <;> with_reducible rfl))
    try simp only [Act.put, List.setIfInBounds_toArray, List.set_cons_zero, List.set_cons_succ]
    refine wpAnyH_take (i := 28) (oi := { dst := some 107, op := Go.Op.binOp Go.BinOp.sub 49 (Go.Operand.tmp 106) (Go.Operand.const (Go.Value.int Go.IntKind.u32 1)) 49, type := 49, pos := "law.go:68", after := #[{ on := 27, ground := Go.Ground.data }, { on := 23, ground := Go.Ground.guard }], guard := some (23, true) }) (v := (.int .u32 (al : Nat))) rfl (by kernel_rfl) (by kernel_rfl) (by kernel_rfl) (fun _ _ _ h => h) (Or.inl ⟨by rfl, ?rc28⟩) (by assumption) ?_
    case rc28 => (intro w hSw; (try dsimp only at hSw); go_simp; (first | (simp [IntKind.wrap_u32, V28.out]; done) | (simp [IntKind.wrap_u32, V28b.out]; done)))
    try simp only [Act.put, List.setIfInBounds_toArray, List.set_cons_zero, List.set_cons_succ]
    refine wpAnyH_ready (rs := [25]) (by kernel_rfl) (by simp) ?_
    refine AllReadyH.cons (o := { dst := some 104, op := Go.Op.call { callee := Go.Callee.value (Go.Operand.func 39), args := #[Go.Operand.tmp 103], argTypes := #[57] }, type := 49, pos := "law.go:68", after := #[{ on := 24, ground := Go.Ground.data }, { on := 23, ground := Go.Ground.chain }, { on := 23, ground := Go.Ground.guard }], guard := some (23, true) }) rfl (fun K hK => ?_) AllReadyH.nil
    go_simp
    (go_at_call 39; refine (AL.out _).mono ?_; rintro e w9 ⟨rfl, hgN⟩)
    first | refine hK.out _ _ ?sc29 (fun h29 => ?_) | (go_wp2_with fail; refine hK.out _ _ ?sc29 (fun h29 => ?_))
    case sc29 => ((try dsimp only); exact HX.out _ _ hgN h21)
    clear hK K h21
    try simp only [Act.put, List.setIfInBounds_toArray, List.set_cons_zero, List.set_cons_succ]
    refine wpAnyH_take (i := 29) (oi := { dst := some 108, op := Go.Op.binOp Go.BinOp.eql 49 (Go.Operand.tmp 104) (Go.Operand.tmp 107) 49, type := 4, pos := "law.go:68", after := #[{ on := 25, ground := Go.Ground.data }, { on := 28, ground := Go.Ground.data }, { on := 23, ground := Go.Ground.guard }], guard := some (23, true) }) (v := ?vc30) rfl (by kernel_rfl) (by kernel_rfl) (by kernel_rfl) (fun _ _ _ h => h) (Or.inl ⟨by rfl, ?rc30⟩) (by assumption) ?_
    case rc30 => (intro w hSw; (try dsimp only at hSw); (go_simp <;> with_reducible rfl))
    try simp only [Act.put, List.setIfInBounds_toArray, List.set_cons_zero, List.set_cons_succ]
    refine wpAnyH_take (i := 30) (oi := { dst := some 109, op := Go.Op.pick (Go.Operand.tmp 102) (Go.Operand.tmp 108) (Go.Operand.const (Go.Value.bool false)), type := 4, pos := "law.go:68", after := #[{ on := 23, ground := Go.Ground.data }, { on := 29, ground := Go.Ground.data }], guard := none }) (v := ?vc31) rfl (by kernel_rfl) (by kernel_rfl) (by kernel_rfl) (fun _ _ _ h => h) (Or.inl ⟨by rfl, ?rc31⟩) (by assumption) ?_
    case rc31 => (intro w hSw; (try dsimp only at hSw); (go_simp <;> with_reducible rfl))
    try simp only [Act.put, List.setIfInBounds_toArray, List.set_cons_zero, List.set_cons_succ]
    refine wpAnyH_take (i := 31) (oi := { dst := some 110, op := Go.Op.move (Go.Operand.tmp 109), type := 4, pos := "law.go:68", after := #[{ on := 30, ground := Go.Ground.data }, { on := 25, ground := Go.Ground.chain }], guard := none }) (v := ?vc32) rfl (by kernel_rfl) (by kernel_rfl) (by kernel_rfl) (fun _ _ _ h => h) (Or.inl ⟨by rfl, ?rc32⟩) (by assumption) ?_
    case rc32 => (intro w hSw; (try dsimp only at hSw); (go_simp <;> with_reducible rfl))
    try simp only [Act.put, List.setIfInBounds_toArray, List.set_cons_zero, List.set_cons_succ]
    refine wpAnyH_take (i := 32) (oi := { dst := some 111, op := Go.Op.load 57 (Go.Operand.tmp 5), type := 57, pos := "law.go:68", after := #[{ on := 31, ground := Go.Ground.guard }], guard := some (31, true) }) (v := ?vc33) rfl (by kernel_rfl) (by kernel_rfl) (by kernel_rfl) (fun _ _ _ h => h) (Or.inl ⟨by rfl, ?rc33⟩) (by assumption) ?_
    case rc33 => (intro w hSw; (try dsimp only at hSw); (go_simp <;> with_reducible rfl))
    try simp only [Act.put, List.setIfInBounds_toArray, List.set_cons_zero, List.set_cons_succ]
    refine wpAnyH_take (i := 34) (oi := { dst := some 113, op := Go.Op.fieldAddr 53 (Go.Operand.tmp 2) 2, type := 0, pos := "law.go:68", after := #[{ on := 31, ground := Go.Ground.guard }], guard := some (31, true) }) (v := ?vc34) rfl (by kernel_rfl) (by kernel_rfl) (by kernel_rfl) (fun _ _ _ h => h) (Or.inl ⟨by rfl, ?rc34⟩) (by assumption) ?_
    case rc34 => (intro w hSw; (try dsimp only at hSw); (go_simp <;> with_reducible rfl))
    try simp only [Act.put, List.setIfInBounds_toArray, List.set_cons_zero, List.set_cons_succ]
    refine wpAnyH_take (i := 35) (oi := { dst := some 114, op := Go.Op.load 49 (Go.Operand.tmp 113), type := 49, pos := "law.go:68", after := #[{ on := 34, ground := Go.Ground.data }, { on := 31, ground := Go.Ground.guard }], guard := some (31, true) }) (v := ?vc35) rfl (by kernel_rfl) (by kernel_rfl) (by kernel_rfl) (fun _ _ _ h => h) (Or.inl ⟨by rfl, ?rc35⟩) (by assumption) ?_
    case rc35 => (intro w hSw; (try dsimp only at hSw); (go_simp <;> with_reducible rfl))
    try simp only [Act.put, List.setIfInBounds_toArray, List.set_cons_zero, List.set_cons_succ]
    refine wpAnyH_ready (rs := [33]) (by kernel_rfl) (by simp) ?_
    refine AllReadyH.cons (o := { dst := some 112, op := Go.Op.call { callee := Go.Callee.value (Go.Operand.func 40), args := #[Go.Operand.tmp 111], argTypes := #[57] }, type := 49, pos := "law.go:68", after := #[{ on := 32, ground := Go.Ground.data }, { on := 31, ground := Go.Ground.chain }, { on := 31, ground := Go.Ground.guard }], guard := some (31, true) }) rfl (fun K hK => ?_) AllReadyH.nil
    go_simp
    (go_at_call 40; refine (WI.out _).mono ?_; rintro e w9 ⟨rfl, hgN⟩)
    first | refine hK.out _ _ ?sc36 (fun h36 => ?_) | (go_wp2_with fail; refine hK.out _ _ ?sc36 (fun h36 => ?_))
    case sc36 => ((try dsimp only); exact HX.out _ _ hgN h29)
    clear hK K h29
    try simp only [Act.put, List.setIfInBounds_toArray, List.set_cons_zero, List.set_cons_succ]
    refine wpAnyH_take (i := 36) (oi := { dst := some 115, op := Go.Op.binOp Go.BinOp.eql 49 (Go.Operand.tmp 112) (Go.Operand.tmp 114) 49, type := 4, pos := "law.go:68", after := #[{ on := 33, ground := Go.Ground.data }, { on := 35, ground := Go.Ground.data }, { on := 31, ground := Go.Ground.guard }], guard := some (31, true) }) (v := ?vc37) rfl (by kernel_rfl) (by kernel_rfl) (by kernel_rfl) (fun _ _ _ h => h) (Or.inl ⟨by rfl, ?rc37⟩) (by assumption) ?_
    case rc37 => (intro w hSw; (try dsimp only at hSw); (go_simp <;> with_reducible rfl))
    try simp only [Act.put, List.setIfInBounds_toArray, List.set_cons_zero, List.set_cons_succ]
    refine wpAnyH_take (i := 37) (oi := { dst := some 116, op := Go.Op.pick (Go.Operand.tmp 110) (Go.Operand.tmp 115) (Go.Operand.const (Go.Value.bool false)), type := 4, pos := "law.go:68", after := #[{ on := 31, ground := Go.Ground.data }, { on := 36, ground := Go.Ground.data }], guard := none }) (v := ?vc38) rfl (by kernel_rfl) (by kernel_rfl) (by kernel_rfl) (fun _ _ _ h => h) (Or.inl ⟨by rfl, ?rc38⟩) (by assumption) ?_
    case rc38 => (intro w hSw; (try dsimp only at hSw); (go_simp <;> with_reducible rfl))
    try simp only [Act.put, List.setIfInBounds_toArray, List.set_cons_zero, List.set_cons_succ]
    refine wpAnyH_take (i := 38) (oi := { dst := some 4, op := Go.Op.assign (Go.Operand.tmp 116), type := 4, pos := "law.go:68", after := #[{ on := 37, ground := Go.Ground.data }, { on := 33, ground := Go.Ground.chain }, { on := 0, ground := Go.Ground.phase }, { on := 1, ground := Go.Ground.phase }, { on := 2, ground := Go.Ground.phase }, { on := 3, ground := Go.Ground.phase }, { on := 4, ground := Go.Ground.phase }, { on := 5, ground := Go.Ground.phase }, { on := 6, ground := Go.Ground.phase }, { on := 7, ground := Go.Ground.phase }, { on := 8, ground := Go.Ground.phase }, { on := 9, ground := Go.Ground.phase }, { on := 10, ground := Go.Ground.phase }, { on := 11, ground := Go.Ground.phase }, { on := 12, ground := Go.Ground.phase }, { on := 13, ground := Go.Ground.phase }, { on := 14, ground := Go.Ground.phase }, { on := 15, ground := Go.Ground.phase }, { on := 16, ground := Go.Ground.phase }, { on := 17, ground := Go.Ground.phase }, { on := 18, ground := Go.Ground.phase }, { on := 19, ground := Go.Ground.phase }, { on := 20, ground := Go.Ground.phase }, { on := 21, ground := Go.Ground.phase }, { on := 22, ground := Go.Ground.phase }, { on := 23, ground := Go.Ground.phase }, { on := 24, ground := Go.Ground.phase }, { on := 25, ground := Go.Ground.phase }, { on := 26, ground := Go.Ground.phase }, { on := 27, ground := Go.Ground.phase }, { on := 28, ground := Go.Ground.phase }, { on := 29, ground := Go.Ground.phase }, { on := 30, ground := Go.Ground.phase }, { on := 31, ground := Go.Ground.phase }, { on := 32, ground := Go.Ground.phase }, { on := 33, ground := Go.Ground.phase }, { on := 34, ground := Go.Ground.phase }, { on := 35, ground := Go.Ground.phase }, { on := 36, ground := Go.Ground.phase }, { on := 37, ground := Go.Ground.phase }], guard := none }) (v := ?vc39) rfl (by kernel_rfl) (by kernel_rfl) (by kernel_rfl) (fun _ _ _ h => h) (Or.inl ⟨by rfl, ?rc39⟩) (by assumption) ?_
    case rc39 => (intro w hSw; (try dsimp only at hSw); (go_simp <;> with_reducible rfl))
    try simp only [Act.put, List.setIfInBounds_toArray, List.set_cons_zero, List.set_cons_succ]
    refine wpAnyH_done (by kernel_rfl) ?_ _
    have G9 := Lib.hid (h36).1
    clear h36
    go_wp2
    go_ret
    exact ⟨rfl, HZ.out.trans G9.out⟩
theorem gridShapes_walk (R P : Int) (W : Nat) (z1 n1 z2 n2 n : Int) (w : World) (hW : W < 4294967296) (_hn : (Lit.int .i64 n).wf = true) :
    Calls Try.prog 5 #[.agg #[.int .i64 R, .int .i64 P, .int .u32 W, .int .i64 z1, .int .i64 n1, .int .i64 z2, .int .i64 n2], .int .i64 n] w fun e w' => e = .returned (.bool true) ∧ Gr w w' := by
  cases hf : decide (Form R P W z1 n1 z2 n2)
  · exact gridShapes_no R P W z1 n1 z2 n2 n w hW hf
  · exact gridShapes_yes R P W z1 n1 z2 n2 n w hW hf
end Go.Proofs.Ytkfkedpldndgiaa
