import Derived.Test.YtihhfdkcggnjpaaF08
import Derived.WalkKit
import Derived.ProofKit
import Derived.LoopTactic
import Derived.Outline
import Derived.WalkSpells
import Derived.WalkLawsBesides
import Derived.Lib.Hide
import Derived.Deep.LoopGhost
import Derived.Deep.QuietTactic
import Derived.BigQuiet
import Derived.ShutString
import Derived.IntWalk
import Derived.Deep.RegionHeld3
namespace Go.Proofs.Ytihhfdkcggnjpaa
open Go.ChangeShapes Go.WideShapes Go.ChangeAt Go.RowKit
open Bal
set_option linter.unusedVariables false
set_option linter.unusedSimpArgs false
theorem calls_gr {f : Nat} {args : Array Value} {w : World} {v : Value} (h : Calls Try.prog f args w fun e w' => e = .returned v ∧ w = w') : Calls Try.prog f args w fun e w' => e = .returned v ∧ Gr w w' :=
  h.mono fun e w' ⟨h1, h2⟩ => ⟨h1, by rw [← h2]; exact Gr.refl _⟩
theorem orG_any (b : Nat) (x y : Int) (w : World) (c : Nat) (h0 : w.cell? ⟨b, 0, none⟩ = some (.int .i64 x)) (h1 : w.cell? ⟨b, 1, none⟩ = some (.int .i64 y)) :
    Calls Try.prog 153 #[.slice (some ⟨b, 0, none⟩) 2 c] w fun e w' => e = .returned (.int .i64 (orI x y)) ∧ Gr w w' := calls_gr (or_any b x y w c h0 h1)
set_option maxRecDepth 100000 in
set_option maxHeartbeats 2000000 in
theorem compareB_any (c n d m : Int) (w : World) :
    Calls Try.prog 84 #[.agg #[.int .u64 c, .int .i64 n], .agg #[.int .u64 d, .int .i64 m]] w fun e w' => e = .returned (.int .i64 (cmpB c n d m)) ∧ Gr w w' := by
  have HB := Lib.hid (show cmpB c n d m = orI (cmpI c d) (cmpI n m) from rfl)
  have c1 := Lib.hid (fun w => calls_gr (cmp64_any c d w))
  have c2 := Lib.hid (fun w => calls_gr (cmpInt_any n m w))
  generalize cmpI c d = x at *
  generalize cmpI n m = y at *
  go_enter Try.func84, Try.ntmps84
  go_wp2
  have HG0 := Lib.hid (((Gr.refl w).alloc (.cells #[.int .u64 c, .int .i64 n] 50)).alloc (.cells #[.int .u64 d, .int .i64 m] 50))
  have hgA := (Gr.refl (w.alloc (.cells #[.int .u64 c, .int .i64 n] 50))).alloc (.cells #[.int .u64 d, .int .i64 m] 50)
  have hgB := Gr.refl ((w.alloc (.cells #[.int .u64 c, .int .i64 n] 50)).alloc (.cells #[.int .u64 d, .int .i64 m] 50))
  have k0 := hgA.own.1 0 _ rfl
  have k1 := hgA.own.1 1 _ rfl
  have j0 := hgB.own.1 0 _ rfl
  have j1 := hgB.own.1 1 _ rfl
  have hsz : (w.alloc (.cells #[.int .u64 c, .int .i64 n] 50)).heap.size = w.heap.size + 1 := by simp
  rw [hsz] at j0 j1
  clear hsz hgA hgB
  generalize (w.alloc (.cells #[.int .u64 c, .int .i64 n] 50)).alloc (.cells #[.int .u64 d, .int .i64 m] 50) = wz at *
  generalize w.heap.size = b at *
  have HX : Hid (∀ w0 w9 : World, Gr w0 w9 → (fun w9 => Gr wz w9 ∧ w9.cell? ⟨b, 0, none⟩ = some (.int .u64 c) ∧ w9.cell? ⟨b, 1, none⟩ = some (.int .i64 n) ∧ w9.cell? ⟨b + 1, 0, none⟩ = some (.int .u64 d) ∧ w9.cell? ⟨b + 1, 1, none⟩ = some (.int .i64 m)) w0 → (fun w9 => Gr wz w9 ∧ w9.cell? ⟨b, 0, none⟩ = some (.int .u64 c) ∧ w9.cell? ⟨b, 1, none⟩ = some (.int .i64 n) ∧ w9.cell? ⟨b + 1, 0, none⟩ = some (.int .u64 d) ∧ w9.cell? ⟨b + 1, 1, none⟩ = some (.int .i64 m)) w9) := Lib.hid fun w0 w9 hg ⟨h, q0, q1, q2, q3⟩ => ⟨h.trans hg, hg.cell q0, hg.cell q1, hg.cell q2, hg.cell q3⟩
  have HS0 := And.intro (Gr.refl wz) (And.intro (k0) (And.intro (k1) (And.intro (j0) (j1))))
  clear k0 k1 j0 j1
  refine wp_region_held_drew (S := (fun w9 => Gr wz w9 ∧ w9.cell? ⟨b, 0, none⟩ = some (.int .u64 c) ∧ w9.cell? ⟨b, 1, none⟩ = some (.int .i64 n) ∧ w9.cell? ⟨b + 1, 0, none⟩ = some (.int .u64 d) ∧ w9.cell? ⟨b + 1, 1, none⟩ = some (.int .i64 m))) (by kernel_rfl) ?inva (fun h0 => ?_)
  case inva => ((try dsimp only); (first | exact HS0 | exact HX.out _ _ ((Gr.refl _).drew) HS0))
  refine wpAnyH_take (i := 0) (oi := { dst := some 5, op := Go.Op.fieldAddr 50 (Go.Operand.tmp 2) 0, type := 0, pos := "ballot.go:20", after := #[], guard := none }) (v := ?va1) rfl (by kernel_rfl) (by kernel_rfl) (by kernel_rfl) (fun _ _ _ h => h) (Or.inl ⟨by rfl, ?ra1⟩) (by assumption) ?_
  case ra1 => (intro w hSw; (try dsimp only at hSw); (go_simp <;> with_reducible rfl))
  try simp only [Act.put, List.setIfInBounds_toArray, List.set_cons_zero, List.set_cons_succ]
  refine wpAnyH_take (i := 1) (oi := { dst := some 6, op := Go.Op.load 48 (Go.Operand.tmp 5), type := 48, pos := "ballot.go:20", after := #[{ on := 0, ground := Go.Ground.data }], guard := none }) (v := ?va2) rfl (by kernel_rfl) (by kernel_rfl) (by kernel_rfl) (fun _ _ _ h => h) (Or.inl ⟨by rfl, ?ra2⟩) (by assumption) ?_
  case ra2 => (intro w hSw; (try dsimp only at hSw); (go_simp <;> with_reducible rfl))
  try simp only [Act.put, List.setIfInBounds_toArray, List.set_cons_zero, List.set_cons_succ]
  refine wpAnyH_take (i := 2) (oi := { dst := some 7, op := Go.Op.fieldAddr 50 (Go.Operand.tmp 3) 0, type := 0, pos := "ballot.go:20", after := #[], guard := none }) (v := ?va3) rfl (by kernel_rfl) (by kernel_rfl) (by kernel_rfl) (fun _ _ _ h => h) (Or.inl ⟨by rfl, ?ra3⟩) (by assumption) ?_
  case ra3 => (intro w hSw; (try dsimp only at hSw); (go_simp <;> with_reducible rfl))
  try simp only [Act.put, List.setIfInBounds_toArray, List.set_cons_zero, List.set_cons_succ]
  refine wpAnyH_take (i := 3) (oi := { dst := some 8, op := Go.Op.load 48 (Go.Operand.tmp 7), type := 48, pos := "ballot.go:20", after := #[{ on := 2, ground := Go.Ground.data }], guard := none }) (v := ?va4) rfl (by kernel_rfl) (by kernel_rfl) (by kernel_rfl) (fun _ _ _ h => h) (Or.inl ⟨by rfl, ?ra4⟩) (by assumption) ?_
  case ra4 => (intro w hSw; (try dsimp only at hSw); (go_simp <;> with_reducible rfl))
  try simp only [Act.put, List.setIfInBounds_toArray, List.set_cons_zero, List.set_cons_succ]
  refine wpAnyH_take (i := 5) (oi := { dst := some 10, op := Go.Op.fieldAddr 50 (Go.Operand.tmp 2) 1, type := 0, pos := "ballot.go:20", after := #[], guard := none }) (v := ?va5) rfl (by kernel_rfl) (by kernel_rfl) (by kernel_rfl) (fun _ _ _ h => h) (Or.inl ⟨by rfl, ?ra5⟩) (by assumption) ?_
  case ra5 => (intro w hSw; (try dsimp only at hSw); (go_simp <;> with_reducible rfl))
  try simp only [Act.put, List.setIfInBounds_toArray, List.set_cons_zero, List.set_cons_succ]
  refine wpAnyH_take (i := 6) (oi := { dst := some 11, op := Go.Op.load 3 (Go.Operand.tmp 10), type := 3, pos := "ballot.go:20", after := #[{ on := 5, ground := Go.Ground.data }], guard := none }) (v := ?va6) rfl (by kernel_rfl) (by kernel_rfl) (by kernel_rfl) (fun _ _ _ h => h) (Or.inl ⟨by rfl, ?ra6⟩) (by assumption) ?_
  case ra6 => (intro w hSw; (try dsimp only at hSw); (go_simp <;> with_reducible rfl))
  try simp only [Act.put, List.setIfInBounds_toArray, List.set_cons_zero, List.set_cons_succ]
  refine wpAnyH_take (i := 7) (oi := { dst := some 12, op := Go.Op.fieldAddr 50 (Go.Operand.tmp 3) 1, type := 0, pos := "ballot.go:20", after := #[], guard := none }) (v := ?va7) rfl (by kernel_rfl) (by kernel_rfl) (by kernel_rfl) (fun _ _ _ h => h) (Or.inl ⟨by rfl, ?ra7⟩) (by assumption) ?_
  case ra7 => (intro w hSw; (try dsimp only at hSw); (go_simp <;> with_reducible rfl))
  try simp only [Act.put, List.setIfInBounds_toArray, List.set_cons_zero, List.set_cons_succ]
  refine wpAnyH_take (i := 8) (oi := { dst := some 13, op := Go.Op.load 3 (Go.Operand.tmp 12), type := 3, pos := "ballot.go:20", after := #[{ on := 7, ground := Go.Ground.data }], guard := none }) (v := ?va8) rfl (by kernel_rfl) (by kernel_rfl) (by kernel_rfl) (fun _ _ _ h => h) (Or.inl ⟨by rfl, ?ra8⟩) (by assumption) ?_
  case ra8 => (intro w hSw; (try dsimp only at hSw); (go_simp <;> with_reducible rfl))
  try simp only [Act.put, List.setIfInBounds_toArray, List.set_cons_zero, List.set_cons_succ]
  refine wpAnyH_ready (rs := [4]) (by kernel_rfl) (by simp) ?_
  refine AllReadyH.cons (o := { dst := some 9, op := Go.Op.call { callee := Go.Callee.value (Go.Operand.func 154), args := #[Go.Operand.tmp 6, Go.Operand.tmp 8], argTypes := #[48, 48] }, type := 3, pos := "ballot.go:20", after := #[{ on := 1, ground := Go.Ground.data }, { on := 3, ground := Go.Ground.data }], guard := none }) rfl (fun K hK => ?_) AllReadyH.nil
  go_simp
  (go_at_call 154; refine (c1.out _).mono ?_; rintro e w9 ⟨rfl, hgN⟩)
  first | refine hK.out _ _ ?sa9 (fun h9 => ?_) | (go_wp2_with fail; refine hK.out _ _ ?sa9 (fun h9 => ?_))
  case sa9 => ((try dsimp only); exact HX.out _ _ hgN h0)
  clear hK K h0
  try simp only [Act.put, List.setIfInBounds_toArray, List.set_cons_zero, List.set_cons_succ]
  refine wpAnyH_ready (rs := [9]) (by kernel_rfl) (by simp) ?_
  refine AllReadyH.cons (o := { dst := some 14, op := Go.Op.call { callee := Go.Callee.value (Go.Operand.func 155), args := #[Go.Operand.tmp 11, Go.Operand.tmp 13], argTypes := #[3, 3] }, type := 3, pos := "ballot.go:20", after := #[{ on := 6, ground := Go.Ground.data }, { on := 8, ground := Go.Ground.data }, { on := 4, ground := Go.Ground.chain }], guard := none }) rfl (fun K hK => ?_) AllReadyH.nil
  go_simp
  (go_at_call 155; refine (c2.out _).mono ?_; rintro e w9 ⟨rfl, hgN⟩)
  first | refine hK.out _ _ ?sa10 (fun h10 => ?_) | (go_wp2_with fail; refine hK.out _ _ ?sa10 (fun h10 => ?_))
  case sa10 => ((try dsimp only); exact HX.out _ _ hgN h9)
  clear hK K h9
  try simp only [Act.put, List.setIfInBounds_toArray, List.set_cons_zero, List.set_cons_succ]
  refine wpAnyH_ready (rs := [10]) (by kernel_rfl) (by simp) ?_
  refine AllReadyH.cons (o := { dst := some 15, op := Go.Op.buildSlice 135 2 #[(0, Go.Operand.tmp 9), (1, Go.Operand.tmp 14)], type := 135, pos := "ballot.go:20", after := #[{ on := 4, ground := Go.Ground.data }, { on := 9, ground := Go.Ground.data }], guard := none }) rfl (fun K hK => ?_) AllReadyH.nil
  go_simp
  (obtain ⟨wb, hw⟩ : ∃ wb, wb = w9.alloc (.cells #[.int .i64 x, .int .i64 y] 3) := ⟨_, rfl⟩; rw [← hw]; have hgN : Gr w9 wb := by rw [hw]; exact (Gr.refl _).alloc _); have e0 : wb.cell? ⟨w9.heap.size, 0, none⟩ = some (.int .i64 x) := by rw [hw]; exact new_cell rfl rfl
  have e1 : wb.cell? ⟨w9.heap.size, 1, none⟩ = some (.int .i64 y) := by rw [hw]; exact new_cell rfl rfl
  clear hw
  first | refine hK.out _ _ ?sa11 (fun h11 => ?_) | (go_wp2_with fail; refine hK.out _ _ ?sa11 (fun h11 => ?_))
  case sa11 => ((try dsimp only); exact HX.out _ _ hgN h10)
  clear hK K h10
  try simp only [Act.put, List.setIfInBounds_toArray, List.set_cons_zero, List.set_cons_succ]
  refine wpAnyH_ready (rs := [11]) (by kernel_rfl) (by simp) ?_
  refine AllReadyH.cons (o := { dst := some 16, op := Go.Op.call { callee := Go.Callee.value (Go.Operand.func 153), args := #[Go.Operand.tmp 15], argTypes := #[135] }, type := 3, pos := "ballot.go:20", after := #[{ on := 10, ground := Go.Ground.data }, { on := 9, ground := Go.Ground.chain }], guard := none }) rfl (fun K hK => ?_) AllReadyH.nil
  go_simp
  (go_at_call 153; refine (orG_any _ x y _ _ e0 e1).mono ?_; rintro e w9 ⟨rfl, hgN⟩)
  first | refine hK.out _ _ ?sa12 (fun h12 => ?_) | (go_wp2_with fail; refine hK.out _ _ ?sa12 (fun h12 => ?_))
  case sa12 => ((try dsimp only); exact HX.out _ _ hgN h11)
  clear hK K h11
  try simp only [Act.put, List.setIfInBounds_toArray, List.set_cons_zero, List.set_cons_succ]
  refine wpAnyH_take (i := 12) (oi := { dst := some 4, op := Go.Op.assign (Go.Operand.tmp 16), type := 3, pos := "ballot.go:20", after := #[{ on := 11, ground := Go.Ground.data }, { on := 11, ground := Go.Ground.chain }, { on := 0, ground := Go.Ground.phase }, { on := 1, ground := Go.Ground.phase }, { on := 2, ground := Go.Ground.phase }, { on := 3, ground := Go.Ground.phase }, { on := 4, ground := Go.Ground.phase }, { on := 5, ground := Go.Ground.phase }, { on := 6, ground := Go.Ground.phase }, { on := 7, ground := Go.Ground.phase }, { on := 8, ground := Go.Ground.phase }, { on := 9, ground := Go.Ground.phase }, { on := 10, ground := Go.Ground.phase }, { on := 11, ground := Go.Ground.phase }], guard := none }) (v := ?va13) rfl (by kernel_rfl) (by kernel_rfl) (by kernel_rfl) (fun _ _ _ h => h) (Or.inl ⟨by rfl, ?ra13⟩) (by assumption) ?_
  case ra13 => (intro w hSw; (try dsimp only at hSw); (go_simp <;> with_reducible rfl))
  try simp only [Act.put, List.setIfInBounds_toArray, List.set_cons_zero, List.set_cons_succ]
  refine wpAnyH_done (by kernel_rfl) ?_ _
  have G9 := Lib.hid (h12).1
  clear h12
  go_wp2
  go_ret
  exact ⟨by rw [HB.out]; rfl, HG0.out.trans G9.out⟩
end Go.Proofs.Ytihhfdkcggnjpaa
