import Derived.Test.YtegapeplbincnaaDoorF07i
import Derived.WalkKit
import Derived.ProofKit
import Derived.LoopTactic
import Derived.Outline
import Derived.WalkSpells
import Derived.WalkLawsBesides
import Derived.Lib.Hide
import Derived.Deep.LoopGhost
import Derived.Deep.QuietTactic
import Derived.BigQuiet
import Derived.ShutString
import Derived.IntWalk
import Derived.Deep.RegionHeld3
namespace Go.Proofs.YtegapeplbincnaaDoor
open Go.ChangeShapes Go.WideShapes Go.ChangeAt Go.RowKit
open Grids
set_option linter.unusedVariables false
set_option linter.unusedSimpArgs false
theorem lt12 {N k : Nat} (h : k < 4096) : k < 4294967296 := by omega
set_option maxRecDepth 100000 in
set_option maxHeartbeats 4000000 in
theorem with_any (r p x a v : Nat) (W z1 n1 z2 n2 : Int) (w : World) (hn : r * p ≤ 12) (ha : a = restB (r * p) x) (hv : v < 4294967296) :
    Calls Tryd.prog 41 #[.agg #[.int .i64 r, .int .i64 p, .int .u32 W, .int .i64 z1, .int .i64 n1, .int .i64 z2, .int .i64 n2], .int .u32 a, .int .u32 v] w fun e w' => e = .returned (.int .u32 (restOr (r * p) x v : Nat)) ∧ Gr w w' := by
  have ha' : a < 4096 := by rw [ha]; exact p12 hn (restB_lt _ _)
  have E := Lib.hid (with_eq (r * p) x a v ha)
  rw [← restB_zero] at E
  have h0 := p12 hn (restB_lt (r * p) 0)
  have R0 := Lib.hid (fun w => rest_any r p 0 W z1 n1 z2 n2 w hn (by decide))
  have RA := Lib.hid (fun w => rest_any r p a W z1 n1 z2 n2 w hn (by omega))
  have RV := Lib.hid (fun w => rest_any r p v W z1 n1 z2 n2 w hn hv)
  have B := Lib.hid (fun w => both_any r p (restB (r * p) a) (restB (r * p) v) W z1 n1 z2 n2 w hn (lt12 (N := 0) (p12 hn (restB_lt _ _))) (lt12 (N := 0) (p12 hn (restB_lt _ _))))
  clear ha hn
  generalize bothB (r * p) (restB (r * p) a) (restB (r * p) v) = o at *
  generalize restOr (r * p) x v = q at *
  generalize restB (r * p) 0 = c at *
  generalize restB (r * p) a = d at *
  generalize restB (r * p) v = e at *
  have e1 := E.out
  have e2 : c - o = q := by omega
  have e3 : o ≤ c := by omega
  have V : Hid (((c : Int) - (o : Int)) % 4294967296 = (q : Int)) := Lib.hid (by omega)
  clear e1 e2
  go_enter Tryd.func41, Tryd.ntmps41
  go_wp2
  have hg0 := Gr.refl (w.alloc (.cells #[.int .i64 r, .int .i64 p, .int .u32 W, .int .i64 z1, .int .i64 n1, .int .i64 z2, .int .i64 n2] 32))
  have HG0 := (Gr.refl w).alloc (.cells #[.int .i64 r, .int .i64 p, .int .u32 W, .int .i64 z1, .int .i64 n1, .int .i64 z2, .int .i64 n2] 32)
  have k0 := hg0.own.1 0 _ rfl
  have k1 := hg0.own.1 1 _ rfl
  have k2 := hg0.own.1 2 _ rfl
  have k3 := hg0.own.1 3 _ rfl
  have k4 := hg0.own.1 4 _ rfl
  have k5 := hg0.own.1 5 _ rfl
  have k6 := hg0.own.1 6 _ rfl
  clear hg0
  generalize w.heap.size = b at *
  generalize w.alloc (.cells #[.int .i64 r, .int .i64 p, .int .u32 W, .int .i64 z1, .int .i64 n1, .int .i64 z2, .int .i64 n2] 32) = wz at *
  have HX : Hid (∀ w0 w9 : World, Gr w0 w9 → (fun w9 => Gr wz w9 ∧ w9.cell? ⟨b, 0, none⟩ = some (.int .i64 (r : Nat)) ∧ w9.cell? ⟨b, 1, none⟩ = some (.int .i64 (p : Nat)) ∧ w9.cell? ⟨b, 2, none⟩ = some (.int .u32 W) ∧ w9.cell? ⟨b, 3, none⟩ = some (.int .i64 z1) ∧ w9.cell? ⟨b, 4, none⟩ = some (.int .i64 n1) ∧ w9.cell? ⟨b, 5, none⟩ = some (.int .i64 z2) ∧ w9.cell? ⟨b, 6, none⟩ = some (.int .i64 n2)) w0 → (fun w9 => Gr wz w9 ∧ w9.cell? ⟨b, 0, none⟩ = some (.int .i64 (r : Nat)) ∧ w9.cell? ⟨b, 1, none⟩ = some (.int .i64 (p : Nat)) ∧ w9.cell? ⟨b, 2, none⟩ = some (.int .u32 W) ∧ w9.cell? ⟨b, 3, none⟩ = some (.int .i64 z1) ∧ w9.cell? ⟨b, 4, none⟩ = some (.int .i64 n1) ∧ w9.cell? ⟨b, 5, none⟩ = some (.int .i64 z2) ∧ w9.cell? ⟨b, 6, none⟩ = some (.int .i64 n2)) w9) :=
    Lib.hid fun w0 w9 hg ⟨h0, h1, h2, h3, h4, h5, h6, h7⟩ => ⟨h0.trans hg, hg.cell h1, hg.cell h2, hg.cell h3, hg.cell h4, hg.cell h5, hg.cell h6, hg.cell h7⟩
  have HS0 := And.intro (Gr.refl wz) (And.intro k0 (And.intro k1 (And.intro k2 (And.intro k3 (And.intro k4 (And.intro k5 k6))))))
  clear k0 k1 k2 k3 k4 k5 k6
  refine wp_region_held_drew (S := (fun w9 => Gr wz w9 ∧ w9.cell? ⟨b, 0, none⟩ = some (.int .i64 (r : Nat)) ∧ w9.cell? ⟨b, 1, none⟩ = some (.int .i64 (p : Nat)) ∧ w9.cell? ⟨b, 2, none⟩ = some (.int .u32 W) ∧ w9.cell? ⟨b, 3, none⟩ = some (.int .i64 z1) ∧ w9.cell? ⟨b, 4, none⟩ = some (.int .i64 n1) ∧ w9.cell? ⟨b, 5, none⟩ = some (.int .i64 z2) ∧ w9.cell? ⟨b, 6, none⟩ = some (.int .i64 n2))) (by kernel_rfl) ?invw (fun h0 => ?_)
  case invw => ((try dsimp only); (first | exact HS0 | exact HX.out _ _ ((Gr.refl _).drew) HS0))
  refine wpAnyH_take (i := 0) (oi := { dst := some 7, op := Go.Op.load 32 (Go.Operand.tmp 3), type := 32, pos := "ref.go:72", after := #[], guard := none }) (v := ?vw1) rfl (by kernel_rfl) (by kernel_rfl) (by kernel_rfl) (fun _ _ _ h => h) (Or.inl ⟨by rfl, ?rw1⟩) (by assumption) ?_
  case rw1 => (intro w hSw; (try dsimp only at hSw); (go_simp <;> with_reducible rfl))
  try simp only [Act.put, List.setIfInBounds_toArray, List.set_cons_zero, List.set_cons_succ]
  refine wpAnyH_take (i := 2) (oi := { dst := some 9, op := Go.Op.load 32 (Go.Operand.tmp 3), type := 32, pos := "ref.go:72", after := #[], guard := none }) (v := ?vw2) rfl (by kernel_rfl) (by kernel_rfl) (by kernel_rfl) (fun _ _ _ h => h) (Or.inl ⟨by rfl, ?rw2⟩) (by assumption) ?_
  case rw2 => (intro w hSw; (try dsimp only at hSw); (go_simp <;> with_reducible rfl))
  try simp only [Act.put, List.setIfInBounds_toArray, List.set_cons_zero, List.set_cons_succ]
  refine wpAnyH_take (i := 3) (oi := { dst := some 10, op := Go.Op.load 32 (Go.Operand.tmp 3), type := 32, pos := "ref.go:72", after := #[], guard := none }) (v := ?vw3) rfl (by kernel_rfl) (by kernel_rfl) (by kernel_rfl) (fun _ _ _ h => h) (Or.inl ⟨by rfl, ?rw3⟩) (by assumption) ?_
  case rw3 => (intro w hSw; (try dsimp only at hSw); (go_simp <;> with_reducible rfl))
  try simp only [Act.put, List.setIfInBounds_toArray, List.set_cons_zero, List.set_cons_succ]
  refine wpAnyH_take (i := 4) (oi := { dst := some 11, op := Go.Op.move (Go.Operand.tmp 1), type := 23, pos := "ref.go:72", after := #[], guard := none }) (v := ?vw4) rfl (by kernel_rfl) (by kernel_rfl) (by kernel_rfl) (fun _ _ _ h => h) (Or.inl ⟨by rfl, ?rw4⟩) (by assumption) ?_
  case rw4 => (intro w hSw; (try dsimp only at hSw); (go_simp <;> with_reducible rfl))
  try simp only [Act.put, List.setIfInBounds_toArray, List.set_cons_zero, List.set_cons_succ]
  refine wpAnyH_take (i := 6) (oi := { dst := some 13, op := Go.Op.load 32 (Go.Operand.tmp 3), type := 32, pos := "ref.go:72", after := #[], guard := none }) (v := ?vw5) rfl (by kernel_rfl) (by kernel_rfl) (by kernel_rfl) (fun _ _ _ h => h) (Or.inl ⟨by rfl, ?rw5⟩) (by assumption) ?_
  case rw5 => (intro w hSw; (try dsimp only at hSw); (go_simp <;> with_reducible rfl))
  try simp only [Act.put, List.setIfInBounds_toArray, List.set_cons_zero, List.set_cons_succ]
  refine wpAnyH_take (i := 7) (oi := { dst := some 14, op := Go.Op.move (Go.Operand.tmp 2), type := 23, pos := "ref.go:72", after := #[], guard := none }) (v := ?vw6) rfl (by kernel_rfl) (by kernel_rfl) (by kernel_rfl) (fun _ _ _ h => h) (Or.inl ⟨by rfl, ?rw6⟩) (by assumption) ?_
  case rw6 => (intro w hSw; (try dsimp only at hSw); (go_simp <;> with_reducible rfl))
  try simp only [Act.put, List.setIfInBounds_toArray, List.set_cons_zero, List.set_cons_succ]
  refine wpAnyH_ready (rs := [1]) (by kernel_rfl) (by simp) ?_
  refine AllReadyH.cons (o := { dst := some 8, op := Go.Op.call { callee := Go.Callee.value (Go.Operand.func 40), args := #[Go.Operand.tmp 7, Go.Operand.const (Go.Value.int Go.IntKind.u32 0)], argTypes := #[32, 23] }, type := 23, pos := "ref.go:72", after := #[{ on := 0, ground := Go.Ground.data }], guard := none }) rfl (fun K hK => ?_) AllReadyH.nil
  go_simp
  (go_at_call 40; refine (R0.out _).mono ?_; rintro e w9 ⟨rfl, hgN⟩)
  first | refine hK.out _ _ ?sw7 (fun h7 => ?_) | (go_wp2_with fail; refine hK.out _ _ ?sw7 (fun h7 => ?_))
  case sw7 => ((try dsimp only); exact HX.out _ _ hgN h0)
  clear hK K h0
  try simp only [Act.put, List.setIfInBounds_toArray, List.set_cons_zero, List.set_cons_succ]
  refine wpAnyH_ready (rs := [5]) (by kernel_rfl) (by simp) ?_
  refine AllReadyH.cons (o := { dst := some 12, op := Go.Op.call { callee := Go.Callee.value (Go.Operand.func 40), args := #[Go.Operand.tmp 10, Go.Operand.tmp 11], argTypes := #[32, 23] }, type := 23, pos := "ref.go:72", after := #[{ on := 3, ground := Go.Ground.data }, { on := 4, ground := Go.Ground.data }, { on := 1, ground := Go.Ground.chain }], guard := none }) rfl (fun K hK => ?_) AllReadyH.nil
  go_simp
  (go_at_call 40; refine (RA.out _).mono ?_; rintro e w9 ⟨rfl, hgN⟩)
  first | refine hK.out _ _ ?sw8 (fun h8 => ?_) | (go_wp2_with fail; refine hK.out _ _ ?sw8 (fun h8 => ?_))
  case sw8 => ((try dsimp only); exact HX.out _ _ hgN h7)
  clear hK K h7
  try simp only [Act.put, List.setIfInBounds_toArray, List.set_cons_zero, List.set_cons_succ]
  refine wpAnyH_ready (rs := [8]) (by kernel_rfl) (by simp) ?_
  refine AllReadyH.cons (o := { dst := some 15, op := Go.Op.call { callee := Go.Callee.value (Go.Operand.func 40), args := #[Go.Operand.tmp 13, Go.Operand.tmp 14], argTypes := #[32, 23] }, type := 23, pos := "ref.go:72", after := #[{ on := 6, ground := Go.Ground.data }, { on := 7, ground := Go.Ground.data }, { on := 5, ground := Go.Ground.chain }], guard := none }) rfl (fun K hK => ?_) AllReadyH.nil
  go_simp
  (go_at_call 40; refine (RV.out _).mono ?_; rintro e w9 ⟨rfl, hgN⟩)
  first | refine hK.out _ _ ?sw9 (fun h9 => ?_) | (go_wp2_with fail; refine hK.out _ _ ?sw9 (fun h9 => ?_))
  case sw9 => ((try dsimp only); exact HX.out _ _ hgN h8)
  clear hK K h8
  try simp only [Act.put, List.setIfInBounds_toArray, List.set_cons_zero, List.set_cons_succ]
  refine wpAnyH_ready (rs := [9]) (by kernel_rfl) (by simp) ?_
  refine AllReadyH.cons (o := { dst := some 16, op := Go.Op.call { callee := Go.Callee.value (Go.Operand.func 51), args := #[Go.Operand.tmp 9, Go.Operand.tmp 12, Go.Operand.tmp 15], argTypes := #[32, 23, 23] }, type := 23, pos := "ref.go:72", after := #[{ on := 2, ground := Go.Ground.data }, { on := 5, ground := Go.Ground.data }, { on := 8, ground := Go.Ground.data }, { on := 8, ground := Go.Ground.chain }], guard := none }) rfl (fun K hK => ?_) AllReadyH.nil
  go_simp
  (go_at_call 51; refine (B.out _).mono ?_; rintro e w9 ⟨rfl, hgN⟩)
  first | refine hK.out _ _ ?sw10 (fun h10 => ?_) | (go_wp2_with fail; refine hK.out _ _ ?sw10 (fun h10 => ?_))
  case sw10 => ((try dsimp only); exact HX.out _ _ hgN h9)
  clear hK K h9
  try simp only [Act.put, List.setIfInBounds_toArray, List.set_cons_zero, List.set_cons_succ]
  refine wpAnyH_take (i := 10) (oi := { dst := some 17, op := Go.Op.binOp Go.BinOp.sub 23 (Go.Operand.tmp 8) (Go.Operand.tmp 16) 23, type := 23, pos := "ref.go:72", after := #[{ on := 1, ground := Go.Ground.data }, { on := 9, ground := Go.Ground.data }], guard := none }) (v := ?vw11) rfl (by kernel_rfl) (by kernel_rfl) (by kernel_rfl) (fun _ _ _ h => h) (Or.inl ⟨by rfl, ?rw11⟩) (by assumption) ?_
  case rw11 => (intro w hSw; (try dsimp only at hSw); (go_simp <;> with_reducible rfl))
  try simp only [Act.put, List.setIfInBounds_toArray, List.set_cons_zero, List.set_cons_succ]
  refine wpAnyH_take (i := 11) (oi := { dst := some 6, op := Go.Op.assign (Go.Operand.tmp 17), type := 23, pos := "ref.go:72", after := #[{ on := 10, ground := Go.Ground.data }, { on := 9, ground := Go.Ground.chain }, { on := 0, ground := Go.Ground.phase }, { on := 1, ground := Go.Ground.phase }, { on := 2, ground := Go.Ground.phase }, { on := 3, ground := Go.Ground.phase }, { on := 4, ground := Go.Ground.phase }, { on := 5, ground := Go.Ground.phase }, { on := 6, ground := Go.Ground.phase }, { on := 7, ground := Go.Ground.phase }, { on := 8, ground := Go.Ground.phase }, { on := 9, ground := Go.Ground.phase }, { on := 10, ground := Go.Ground.phase }], guard := none }) (v := ?vw12) rfl (by kernel_rfl) (by kernel_rfl) (by kernel_rfl) (fun _ _ _ h => h) (Or.inl ⟨by rfl, ?rw12⟩) (by assumption) ?_
  case rw12 => (intro w hSw; (try dsimp only at hSw); (go_simp <;> with_reducible rfl))
  try simp only [Act.put, List.setIfInBounds_toArray, List.set_cons_zero, List.set_cons_succ]
  refine wpAnyH_done (by kernel_rfl) ?_ _
  obtain ⟨g9, -⟩ := h10
  have G9 := Lib.hid g9
  clear g9
  go_wp2
  go_ret
  exact ⟨ret_int V.out, HG0.trans G9.out⟩
end Go.Proofs.YtegapeplbincnaaDoor
