import Derived.Test.YtmgpnpmdmelnkaaGreatDoorF22j
import Derived.WalkKit
import Derived.ProofKit
import Derived.LoopTactic
import Derived.Outline
import Derived.WalkSpells
import Derived.WalkLawsBesides
import Derived.Lib.Hide
import Derived.Deep.LoopGhost
import Derived.Deep.QuietTactic
import Derived.BigQuiet
import Derived.ShutString
import Derived.IntWalk
import Derived.Lib.MinMax
import Derived.Deep.RegionWith
import Derived.Deep.RegionHeld3
namespace Go.Proofs.YtmgpnpmdmelnkaaGreatDoor
open Go.ChangeShapes Go.WideShapes Go.ChangeAt Go.RowKit
set_option linter.unusedVariables false
set_option linter.unusedSimpArgs false
variable {w0 w : World} {b : Nat} {v1 v2 : Value} {B : Bk}
noncomputable def freeB (H O : List Lok) (x : Lok) : Bool := !H.any (cflB x) && !O.any (cflB x)
set_option maxRecDepth 100000 in
set_option maxHeartbeats 2000000 in
theorem bfree_any {base3 : Nat} {v3 : Value} (x : Lok) (O : List Lok) (w : World) (h : BkIs w0 w b v1 v2 B) (hl : B.H.length ≤ 500) (h3 : w.ownsRow base3 42 4 v3 O.length (rcells encLok O)) (hl3 : O.length ≤ 500)
    (hx : IsPath x.txt) (hH : ∀ y ∈ B.H, IsPath y.txt) (hO : ∀ y ∈ O, IsPath y.txt) :
    Calls Tryz.prog 42 #[.pointer (some ⟨b, 0, none⟩), .agg #[.int .i64 x.ses, .string x.txt, .bool x.ex, .int .u64 x.tok], v3] w fun e w' => e = .returned (.bool (freeB B.H O x)) ∧ Gr w w' := by
  have HGW := Lib.hid ((Gr.refl w).alloc (.cells #[.int .i64 x.ses, .string x.txt, .bool x.ex, .int .u64 x.tok] 42))
  have HBX := Lib.hid (Blk.new w #[.int .i64 x.ses, .string x.txt, .bool x.ex, .int .u64 x.tok] 42)
  have c0 := HGW.out.cell (h.blk.cell (i := 0) rfl)
  have he : ∀ args w, (callFunc 59 args).run Tryz.prog w = .ok (.enter 59 args) w := fun _ _ => by kernel_rfl
  have HA1 := Lib.hid (fun w' (hg : Gr (w.alloc (.cells #[.int .i64 x.ses, .string x.txt, .bool x.ex, .int .u64 x.tok] 42)) w') => anyLokB_any (f := 59) (rv := .agg #[.int .i64 x.ses, .string x.txt, .bool x.ex, .int .u64 x.tok]) (cflB x) B.H w' (ownsRow_gr (HGW.out.trans hg) h.r1) (by omega) he (fun y hy w0 _ => lconf_any x y w0 hx (hH y hy)))
  have HA2 := Lib.hid (fun w' (hg : Gr (w.alloc (.cells #[.int .i64 x.ses, .string x.txt, .bool x.ex, .int .u64 x.tok] 42)) w') => anyLokB_any (f := 59) (rv := .agg #[.int .i64 x.ses, .string x.txt, .bool x.ex, .int .u64 x.tok]) (cflB x) O w' (ownsRow_gr (HGW.out.trans hg) h3) (by omega) he (fun y hy w0 _ => lconf_any x y w0 hx (hO y hy)))
  obtain ⟨a1, k1, rfl, _⟩ := ownsRow_slice h.r1
  obtain ⟨a3, k3, rfl, _⟩ := ownsRow_slice h3
  unfold freeB
  generalize B.H.any (cflB x) = q1 at *
  generalize O.any (cflB x) = q2 at *
  generalize B.H.length = n1 at *
  generalize O.length = n3 at *
  obtain ⟨xs, xt, xe, xk⟩ := x
  simp only at HGW HBX c0 HA1 HA2 ⊢
  clear h h3 he hx hH hO
  have x0 := HBX.out.cell (i := 0) rfl
  have x1 := HBX.out.cell (i := 1) rfl
  have x2 := HBX.out.cell (i := 2) rfl
  have x3 := HBX.out.cell (i := 3) rfl
  cases q1
  · go_enter Tryz.func42, Tryz.ntmps42
    go_wp2_with fail
    generalize (w.alloc (.cells #[.int .i64 xs, .string xt, .bool xe, .int .u64 xk] 42)) = w2 at *
    have HX : Hid (∀ w0 w9 : World, Gr w0 w9 → (fun w9 => Gr w2 w9 ∧ w9.cell? ⟨b, 0, none⟩ = some (.slice a1 n1 k1) ∧ w9.cell? ⟨w.heap.size, 0, none⟩ = some (.int .i64 xs) ∧ w9.cell? ⟨w.heap.size, 1, none⟩ = some (.string xt) ∧ w9.cell? ⟨w.heap.size, 2, none⟩ = some (.bool xe) ∧ w9.cell? ⟨w.heap.size, 3, none⟩ = some (.int .u64 xk)) w0 → (fun w9 => Gr w2 w9 ∧ w9.cell? ⟨b, 0, none⟩ = some (.slice a1 n1 k1) ∧ w9.cell? ⟨w.heap.size, 0, none⟩ = some (.int .i64 xs) ∧ w9.cell? ⟨w.heap.size, 1, none⟩ = some (.string xt) ∧ w9.cell? ⟨w.heap.size, 2, none⟩ = some (.bool xe) ∧ w9.cell? ⟨w.heap.size, 3, none⟩ = some (.int .u64 xk)) w9) := Lib.hid fun w0 w9 hg ⟨h, q0, q1, q2, q3, q4⟩ => ⟨h.trans hg, hg.cell q0, hg.cell q1, hg.cell q2, hg.cell q3, hg.cell q4⟩
    refine wp_region_held_drew (S := (fun w9 => Gr w2 w9 ∧ w9.cell? ⟨b, 0, none⟩ = some (.slice a1 n1 k1) ∧ w9.cell? ⟨w.heap.size, 0, none⟩ = some (.int .i64 xs) ∧ w9.cell? ⟨w.heap.size, 1, none⟩ = some (.string xt) ∧ w9.cell? ⟨w.heap.size, 2, none⟩ = some (.bool xe) ∧ w9.cell? ⟨w.heap.size, 3, none⟩ = some (.int .u64 xk))) (by kernel_rfl) ?inva (fun h0 => ?_)
    case inva => ((try dsimp only); (exact HX.out _ _ ((Gr.refl _).drew) ⟨Gr.refl _, c0, x0, x1, x2, x3⟩))
    refine wpAnyH_take (i := 0) (oi := { dst := some 7, op := Go.Op.move (Go.Operand.tmp 0), type := 25, pos := "locks.go:73", after := #[], guard := none }) (v := ?va1) rfl (by kernel_rfl) (by kernel_rfl) (by kernel_rfl) (fun _ _ _ h => h) (Or.inl ⟨by rfl, ?ra1⟩) (by assumption) ?_
    case ra1 => (intro w hSw; (try dsimp only at hSw); (go_simp <;> with_reducible rfl))
    try simp only [Act.put, List.setIfInBounds_toArray, List.set_cons_zero, List.set_cons_succ]
    refine wpAnyH_take (i := 1) (oi := { dst := some 8, op := Go.Op.nilCheck (Go.Operand.tmp 7), type := 0, pos := "locks.go:73", after := #[⟨0, .data⟩], guard := none }) (v := ?va2) rfl (by kernel_rfl) (by kernel_rfl) (by kernel_rfl) (fun _ _ _ h => h) (Or.inl ⟨by rfl, ?ra2⟩) (by assumption) ?_
    case ra2 => (intro w hSw; (try dsimp only at hSw); (go_simp <;> with_reducible rfl))
    try simp only [Act.put, List.setIfInBounds_toArray, List.set_cons_zero, List.set_cons_succ]
    refine wpAnyH_take (i := 2) (oi := { dst := some 9, op := Go.Op.fieldAddr 69 (Go.Operand.tmp 8) 0, type := 0, pos := "locks.go:73", after := #[⟨1, .data⟩], guard := none }) (v := ?va3) rfl (by kernel_rfl) (by kernel_rfl) (by kernel_rfl) (fun _ _ _ h => h) (Or.inl ⟨by rfl, ?ra3⟩) (by assumption) ?_
    case ra3 => (intro w hSw; (try dsimp only at hSw); (go_simp <;> with_reducible rfl))
    try simp only [Act.put, List.setIfInBounds_toArray, List.set_cons_zero, List.set_cons_succ]
    refine wpAnyH_take (i := 3) (oi := { dst := some 10, op := Go.Op.load 37 (Go.Operand.tmp 9), type := 37, pos := "locks.go:73", after := #[⟨2, .data⟩], guard := none }) (v := ?va4) rfl (by kernel_rfl) (by kernel_rfl) (by kernel_rfl) (fun _ _ _ h => h) (Or.inl ⟨by rfl, ?ra4⟩) (by assumption) ?_
    case ra4 => (intro w hSw; (try dsimp only at hSw); (go_simp <;> with_reducible rfl))
    try simp only [Act.put, List.setIfInBounds_toArray, List.set_cons_zero, List.set_cons_succ]
    refine wpAnyH_take (i := 4) (oi := { dst := some 11, op := Go.Op.load 42 (Go.Operand.tmp 4), type := 42, pos := "locks.go:73", after := #[], guard := none }) (v := ?va5) rfl (by kernel_rfl) (by kernel_rfl) (by kernel_rfl) (fun _ _ _ h => h) (Or.inl ⟨by rfl, ?ra5⟩) (by assumption) ?_
    case ra5 => (intro w hSw; (try dsimp only at hSw); (go_simp <;> with_reducible rfl))
    try simp only [Act.put, List.setIfInBounds_toArray, List.set_cons_zero, List.set_cons_succ]
    refine wpAnyH_take (i := 5) (oi := { dst := some 12, op := Go.Op.makeFunc (Go.Fn.func 59) #[Go.Operand.tmp 11] #[], type := 84, pos := "locks.go:73", after := #[⟨4, .data⟩], guard := none }) (v := ?va6) rfl (by kernel_rfl) (by kernel_rfl) (by kernel_rfl) (fun _ _ _ h => h) (Or.inl ⟨by rfl, ?ra6⟩) (by assumption) ?_
    case ra6 => (intro w hSw; (try dsimp only at hSw); (go_simp <;> with_reducible rfl))
    try simp only [Act.put, List.setIfInBounds_toArray, List.set_cons_zero, List.set_cons_succ]
    refine wpAnyH_ready (rs := [6]) (by kernel_rfl) (by simp) ?_
    refine AllReadyH.cons (o := { dst := some 13, op := Go.Op.call { callee := Go.Callee.value (Go.Operand.func 57), args := #[Go.Operand.tmp 10, Go.Operand.tmp 12], argTypes := #[37, 84] }, type := 4, pos := "locks.go:73", after := #[⟨3, .data⟩, ⟨5, .data⟩], guard := none }) rfl (fun K hK => ?_) AllReadyH.nil
    go_simp
    go_at_call 57
    refine (HA1.out _ h0.1).mono ?_
    rintro e w9 ⟨rfl, hgN⟩
    first | refine hK.out _ _ ?sa7 (fun h7 => ?_) | (go_wp2_with fail; refine hK.out _ _ ?sa7 (fun h7 => ?_))
    case sa7 => ((try dsimp only); (exact HX.out _ _ hgN h0))
    clear hK K h0
    try simp only [Act.put, List.setIfInBounds_toArray, List.set_cons_zero, List.set_cons_succ]
    refine wpAnyH_take (i := 7) (oi := { dst := some 14, op := Go.Op.unOp Go.UnOp.not 4 (Go.Operand.tmp 13), type := 4, pos := "locks.go:73", after := #[⟨6, .data⟩], guard := none }) (v := ?va8) rfl (by kernel_rfl) (by kernel_rfl) (by kernel_rfl) (fun _ _ _ h => h) (Or.inl ⟨by rfl, ?ra8⟩) (by assumption) ?_
    case ra8 => (intro w hSw; (try dsimp only at hSw); (go_simp <;> with_reducible rfl))
    try simp only [Act.put, List.setIfInBounds_toArray, List.set_cons_zero, List.set_cons_succ]
    refine wpAnyH_take (i := 8) (oi := { dst := some 15, op := Go.Op.move (Go.Operand.tmp 14), type := 4, pos := "locks.go:73", after := #[⟨7, .data⟩, ⟨6, .chain⟩], guard := none }) (v := ?va9) rfl (by kernel_rfl) (by kernel_rfl) (by kernel_rfl) (fun _ _ _ h => h) (Or.inl ⟨by rfl, ?ra9⟩) (by assumption) ?_
    case ra9 => (intro w hSw; (try dsimp only at hSw); (go_simp <;> with_reducible rfl))
    try simp only [Act.put, List.setIfInBounds_toArray, List.set_cons_zero, List.set_cons_succ]
    refine wpAnyH_take (i := 9) (oi := { dst := some 16, op := Go.Op.move (Go.Operand.tmp 2), type := 37, pos := "locks.go:73", after := #[⟨8, .guard⟩], guard := some (8, true) }) (v := ?va10) rfl (by kernel_rfl) (by kernel_rfl) (by kernel_rfl) (fun _ _ _ h => h) (Or.inl ⟨by rfl, ?ra10⟩) (by assumption) ?_
    case ra10 => (intro w hSw; (try dsimp only at hSw); (go_simp <;> with_reducible rfl))
    try simp only [Act.put, List.setIfInBounds_toArray, List.set_cons_zero, List.set_cons_succ]
    refine wpAnyH_take (i := 10) (oi := { dst := some 17, op := Go.Op.load 42 (Go.Operand.tmp 4), type := 42, pos := "locks.go:73", after := #[⟨8, .guard⟩], guard := some (8, true) }) (v := ?va11) rfl (by kernel_rfl) (by kernel_rfl) (by kernel_rfl) (fun _ _ _ h => h) (Or.inl ⟨by rfl, ?ra11⟩) (by assumption) ?_
    case ra11 => (intro w hSw; (try dsimp only at hSw); (go_simp <;> with_reducible rfl))
    try simp only [Act.put, List.setIfInBounds_toArray, List.set_cons_zero, List.set_cons_succ]
    refine wpAnyH_take (i := 11) (oi := { dst := some 18, op := Go.Op.makeFunc (Go.Fn.func 59) #[Go.Operand.tmp 17] #[], type := 84, pos := "locks.go:73", after := #[⟨10, .data⟩, ⟨8, .guard⟩], guard := some (8, true) }) (v := ?va12) rfl (by kernel_rfl) (by kernel_rfl) (by kernel_rfl) (fun _ _ _ h => h) (Or.inl ⟨by rfl, ?ra12⟩) (by assumption) ?_
    case ra12 => (intro w hSw; (try dsimp only at hSw); (go_simp <;> with_reducible rfl))
    try simp only [Act.put, List.setIfInBounds_toArray, List.set_cons_zero, List.set_cons_succ]
    refine wpAnyH_ready (rs := [12]) (by kernel_rfl) (by simp) ?_
    refine AllReadyH.cons (o := { dst := some 19, op := Go.Op.call { callee := Go.Callee.value (Go.Operand.func 57), args := #[Go.Operand.tmp 16, Go.Operand.tmp 18], argTypes := #[37, 84] }, type := 4, pos := "locks.go:73", after := #[⟨9, .data⟩, ⟨11, .data⟩, ⟨8, .chain⟩, ⟨8, .guard⟩], guard := some (8, true) }) rfl (fun K hK => ?_) AllReadyH.nil
    go_simp
    go_at_call 57
    refine (HA2.out _ h7.1).mono ?_
    rintro e w9 ⟨rfl, hgN⟩
    first | refine hK.out _ _ ?sa13 (fun h13 => ?_) | (go_wp2_with fail; refine hK.out _ _ ?sa13 (fun h13 => ?_))
    case sa13 => ((try dsimp only); (exact HX.out _ _ hgN h7))
    clear hK K h7
    try simp only [Act.put, List.setIfInBounds_toArray, List.set_cons_zero, List.set_cons_succ]
    refine wpAnyH_take (i := 13) (oi := { dst := some 20, op := Go.Op.unOp Go.UnOp.not 4 (Go.Operand.tmp 19), type := 4, pos := "locks.go:73", after := #[⟨12, .data⟩, ⟨8, .guard⟩], guard := some (8, true) }) (v := ?va14) rfl (by kernel_rfl) (by kernel_rfl) (by kernel_rfl) (fun _ _ _ h => h) (Or.inl ⟨by rfl, ?ra14⟩) (by assumption) ?_
    case ra14 => (intro w hSw; (try dsimp only at hSw); (go_simp <;> with_reducible rfl))
    try simp only [Act.put, List.setIfInBounds_toArray, List.set_cons_zero, List.set_cons_succ]
    refine wpAnyH_take (i := 14) (oi := { dst := some 21, op := Go.Op.pick (Go.Operand.tmp 15) (Go.Operand.tmp 20) (Go.Operand.const (Go.Value.bool false)), type := 4, pos := "locks.go:73", after := #[⟨8, .data⟩, ⟨13, .data⟩], guard := none }) (v := ?va15) rfl (by kernel_rfl) (by kernel_rfl) (by kernel_rfl) (fun _ _ _ h => h) (Or.inl ⟨by rfl, ?ra15⟩) (by assumption) ?_
    case ra15 => (intro w hSw; (try dsimp only at hSw); (go_simp <;> with_reducible rfl))
    try simp only [Act.put, List.setIfInBounds_toArray, List.set_cons_zero, List.set_cons_succ]
    refine wpAnyH_take (i := 15) (oi := { dst := some 6, op := Go.Op.assign (Go.Operand.tmp 21), type := 4, pos := "locks.go:73", after := #[⟨14, .data⟩, ⟨12, .chain⟩, ⟨0, .phase⟩, ⟨1, .phase⟩, ⟨2, .phase⟩, ⟨3, .phase⟩, ⟨4, .phase⟩, ⟨5, .phase⟩, ⟨6, .phase⟩, ⟨7, .phase⟩, ⟨8, .phase⟩, ⟨9, .phase⟩, ⟨10, .phase⟩, ⟨11, .phase⟩, ⟨12, .phase⟩, ⟨13, .phase⟩, ⟨14, .phase⟩], guard := none }) (v := ?va16) rfl (by kernel_rfl) (by kernel_rfl) (by kernel_rfl) (fun _ _ _ h => h) (Or.inl ⟨by rfl, ?ra16⟩) (by assumption) ?_
    case ra16 => (intro w hSw; (try dsimp only at hSw); (go_simp <;> with_reducible rfl))
    try simp only [Act.put, List.setIfInBounds_toArray, List.set_cons_zero, List.set_cons_succ]
    refine wpAnyH_done (by kernel_rfl) ?_ _
    have QF := Lib.hid (HGW.out.trans h13.1)
    clear h13 c0 x0 x1 x2 x3
    go_wp2
    go_ret
    exact ⟨by simp, QF.out⟩
  · go_enter Tryz.func42, Tryz.ntmps42
    go_wp2_with fail
    generalize (w.alloc (.cells #[.int .i64 xs, .string xt, .bool xe, .int .u64 xk] 42)) = w2 at *
    have HX : Hid (∀ w0 w9 : World, Gr w0 w9 → (fun w9 => Gr w2 w9 ∧ w9.cell? ⟨b, 0, none⟩ = some (.slice a1 n1 k1) ∧ w9.cell? ⟨w.heap.size, 0, none⟩ = some (.int .i64 xs) ∧ w9.cell? ⟨w.heap.size, 1, none⟩ = some (.string xt) ∧ w9.cell? ⟨w.heap.size, 2, none⟩ = some (.bool xe) ∧ w9.cell? ⟨w.heap.size, 3, none⟩ = some (.int .u64 xk)) w0 → (fun w9 => Gr w2 w9 ∧ w9.cell? ⟨b, 0, none⟩ = some (.slice a1 n1 k1) ∧ w9.cell? ⟨w.heap.size, 0, none⟩ = some (.int .i64 xs) ∧ w9.cell? ⟨w.heap.size, 1, none⟩ = some (.string xt) ∧ w9.cell? ⟨w.heap.size, 2, none⟩ = some (.bool xe) ∧ w9.cell? ⟨w.heap.size, 3, none⟩ = some (.int .u64 xk)) w9) := Lib.hid fun w0 w9 hg ⟨h, q0, q1, q2, q3, q4⟩ => ⟨h.trans hg, hg.cell q0, hg.cell q1, hg.cell q2, hg.cell q3, hg.cell q4⟩
    refine wp_region_held_drew (S := (fun w9 => Gr w2 w9 ∧ w9.cell? ⟨b, 0, none⟩ = some (.slice a1 n1 k1) ∧ w9.cell? ⟨w.heap.size, 0, none⟩ = some (.int .i64 xs) ∧ w9.cell? ⟨w.heap.size, 1, none⟩ = some (.string xt) ∧ w9.cell? ⟨w.heap.size, 2, none⟩ = some (.bool xe) ∧ w9.cell? ⟨w.heap.size, 3, none⟩ = some (.int .u64 xk))) (by kernel_rfl) ?invb (fun h0 => ?_)
    case invb => ((try dsimp only); (exact HX.out _ _ ((Gr.refl _).drew) ⟨Gr.refl _, c0, x0, x1, x2, x3⟩))
    refine wpAnyH_take (i := 0) (oi := { dst := some 7, op := Go.Op.move (Go.Operand.tmp 0), type := 25, pos := "locks.go:73", after := #[], guard := none }) (v := ?vb1) rfl (by kernel_rfl) (by kernel_rfl) (by kernel_rfl) (fun _ _ _ h => h) (Or.inl ⟨by rfl, ?rb1⟩) (by assumption) ?_
    case rb1 => (intro w hSw; (try dsimp only at hSw); (go_simp <;> with_reducible rfl))
    try simp only [Act.put, List.setIfInBounds_toArray, List.set_cons_zero, List.set_cons_succ]
    refine wpAnyH_take (i := 1) (oi := { dst := some 8, op := Go.Op.nilCheck (Go.Operand.tmp 7), type := 0, pos := "locks.go:73", after := #[⟨0, .data⟩], guard := none }) (v := ?vb2) rfl (by kernel_rfl) (by kernel_rfl) (by kernel_rfl) (fun _ _ _ h => h) (Or.inl ⟨by rfl, ?rb2⟩) (by assumption) ?_
    case rb2 => (intro w hSw; (try dsimp only at hSw); (go_simp <;> with_reducible rfl))
    try simp only [Act.put, List.setIfInBounds_toArray, List.set_cons_zero, List.set_cons_succ]
    refine wpAnyH_take (i := 2) (oi := { dst := some 9, op := Go.Op.fieldAddr 69 (Go.Operand.tmp 8) 0, type := 0, pos := "locks.go:73", after := #[⟨1, .data⟩], guard := none }) (v := ?vb3) rfl (by kernel_rfl) (by kernel_rfl) (by kernel_rfl) (fun _ _ _ h => h) (Or.inl ⟨by rfl, ?rb3⟩) (by assumption) ?_
    case rb3 => (intro w hSw; (try dsimp only at hSw); (go_simp <;> with_reducible rfl))
    try simp only [Act.put, List.setIfInBounds_toArray, List.set_cons_zero, List.set_cons_succ]
    refine wpAnyH_take (i := 3) (oi := { dst := some 10, op := Go.Op.load 37 (Go.Operand.tmp 9), type := 37, pos := "locks.go:73", after := #[⟨2, .data⟩], guard := none }) (v := ?vb4) rfl (by kernel_rfl) (by kernel_rfl) (by kernel_rfl) (fun _ _ _ h => h) (Or.inl ⟨by rfl, ?rb4⟩) (by assumption) ?_
    case rb4 => (intro w hSw; (try dsimp only at hSw); (go_simp <;> with_reducible rfl))
    try simp only [Act.put, List.setIfInBounds_toArray, List.set_cons_zero, List.set_cons_succ]
    refine wpAnyH_take (i := 4) (oi := { dst := some 11, op := Go.Op.load 42 (Go.Operand.tmp 4), type := 42, pos := "locks.go:73", after := #[], guard := none }) (v := ?vb5) rfl (by kernel_rfl) (by kernel_rfl) (by kernel_rfl) (fun _ _ _ h => h) (Or.inl ⟨by rfl, ?rb5⟩) (by assumption) ?_
    case rb5 => (intro w hSw; (try dsimp only at hSw); (go_simp <;> with_reducible rfl))
    try simp only [Act.put, List.setIfInBounds_toArray, List.set_cons_zero, List.set_cons_succ]
    refine wpAnyH_take (i := 5) (oi := { dst := some 12, op := Go.Op.makeFunc (Go.Fn.func 59) #[Go.Operand.tmp 11] #[], type := 84, pos := "locks.go:73", after := #[⟨4, .data⟩], guard := none }) (v := ?vb6) rfl (by kernel_rfl) (by kernel_rfl) (by kernel_rfl) (fun _ _ _ h => h) (Or.inl ⟨by rfl, ?rb6⟩) (by assumption) ?_
    case rb6 => (intro w hSw; (try dsimp only at hSw); (go_simp <;> with_reducible rfl))
    try simp only [Act.put, List.setIfInBounds_toArray, List.set_cons_zero, List.set_cons_succ]
    refine wpAnyH_ready (rs := [6]) (by kernel_rfl) (by simp) ?_
    refine AllReadyH.cons (o := { dst := some 13, op := Go.Op.call { callee := Go.Callee.value (Go.Operand.func 57), args := #[Go.Operand.tmp 10, Go.Operand.tmp 12], argTypes := #[37, 84] }, type := 4, pos := "locks.go:73", after := #[⟨3, .data⟩, ⟨5, .data⟩], guard := none }) rfl (fun K hK => ?_) AllReadyH.nil
    go_simp
    go_at_call 57
    refine (HA1.out _ h0.1).mono ?_
    rintro e w9 ⟨rfl, hgN⟩
    first | refine hK.out _ _ ?sb7 (fun h7 => ?_) | (go_wp2_with fail; refine hK.out _ _ ?sb7 (fun h7 => ?_))
    case sb7 => ((try dsimp only); (exact HX.out _ _ hgN h0))
    clear hK K h0
    try simp only [Act.put, List.setIfInBounds_toArray, List.set_cons_zero, List.set_cons_succ]
    refine wpAnyH_take (i := 7) (oi := { dst := some 14, op := Go.Op.unOp Go.UnOp.not 4 (Go.Operand.tmp 13), type := 4, pos := "locks.go:73", after := #[⟨6, .data⟩], guard := none }) (v := ?vb8) rfl (by kernel_rfl) (by kernel_rfl) (by kernel_rfl) (fun _ _ _ h => h) (Or.inl ⟨by rfl, ?rb8⟩) (by assumption) ?_
    case rb8 => (intro w hSw; (try dsimp only at hSw); (go_simp <;> with_reducible rfl))
    try simp only [Act.put, List.setIfInBounds_toArray, List.set_cons_zero, List.set_cons_succ]
    refine wpAnyH_take (i := 8) (oi := { dst := some 15, op := Go.Op.move (Go.Operand.tmp 14), type := 4, pos := "locks.go:73", after := #[⟨7, .data⟩, ⟨6, .chain⟩], guard := none }) (v := ?vb9) rfl (by kernel_rfl) (by kernel_rfl) (by kernel_rfl) (fun _ _ _ h => h) (Or.inl ⟨by rfl, ?rb9⟩) (by assumption) ?_
    case rb9 => (intro w hSw; (try dsimp only at hSw); (go_simp <;> with_reducible rfl))
    try simp only [Act.put, List.setIfInBounds_toArray, List.set_cons_zero, List.set_cons_succ]
    refine wpAnyH_take (i := 9) (oi := { dst := some 16, op := Go.Op.move (Go.Operand.tmp 2), type := 37, pos := "locks.go:73", after := #[⟨8, .guard⟩], guard := some (8, true) }) (v := undef) rfl (by kernel_rfl) (by kernel_rfl) (by kernel_rfl) (fun _ _ _ h => h) (Or.inr ⟨by rfl, rfl⟩) (by assumption) ?_
    try simp only [Act.put, List.setIfInBounds_toArray, List.set_cons_zero, List.set_cons_succ]
    refine wpAnyH_take (i := 10) (oi := { dst := some 17, op := Go.Op.load 42 (Go.Operand.tmp 4), type := 42, pos := "locks.go:73", after := #[⟨8, .guard⟩], guard := some (8, true) }) (v := undef) rfl (by kernel_rfl) (by kernel_rfl) (by kernel_rfl) (fun _ _ _ h => h) (Or.inr ⟨by rfl, rfl⟩) (by assumption) ?_
    try simp only [Act.put, List.setIfInBounds_toArray, List.set_cons_zero, List.set_cons_succ]
    refine wpAnyH_take (i := 11) (oi := { dst := some 18, op := Go.Op.makeFunc (Go.Fn.func 59) #[Go.Operand.tmp 17] #[], type := 84, pos := "locks.go:73", after := #[⟨10, .data⟩, ⟨8, .guard⟩], guard := some (8, true) }) (v := undef) rfl (by kernel_rfl) (by kernel_rfl) (by kernel_rfl) (fun _ _ _ h => h) (Or.inr ⟨by rfl, rfl⟩) (by assumption) ?_
    try simp only [Act.put, List.setIfInBounds_toArray, List.set_cons_zero, List.set_cons_succ]
    refine wpAnyH_take (i := 12) (oi := { dst := some 19, op := Go.Op.call { callee := Go.Callee.value (Go.Operand.func 57), args := #[Go.Operand.tmp 16, Go.Operand.tmp 18], argTypes := #[37, 84] }, type := 4, pos := "locks.go:73", after := #[⟨9, .data⟩, ⟨11, .data⟩, ⟨8, .chain⟩, ⟨8, .guard⟩], guard := some (8, true) }) (v := undef) rfl (by kernel_rfl) (by kernel_rfl) (by kernel_rfl) (fun _ _ _ h => h) (Or.inr ⟨by rfl, rfl⟩) (by assumption) ?_
    try simp only [Act.put, List.setIfInBounds_toArray, List.set_cons_zero, List.set_cons_succ]
    refine wpAnyH_take (i := 13) (oi := { dst := some 20, op := Go.Op.unOp Go.UnOp.not 4 (Go.Operand.tmp 19), type := 4, pos := "locks.go:73", after := #[⟨12, .data⟩, ⟨8, .guard⟩], guard := some (8, true) }) (v := undef) rfl (by kernel_rfl) (by kernel_rfl) (by kernel_rfl) (fun _ _ _ h => h) (Or.inr ⟨by rfl, rfl⟩) (by assumption) ?_
    try simp only [Act.put, List.setIfInBounds_toArray, List.set_cons_zero, List.set_cons_succ]
    refine wpAnyH_take (i := 14) (oi := { dst := some 21, op := Go.Op.pick (Go.Operand.tmp 15) (Go.Operand.tmp 20) (Go.Operand.const (Go.Value.bool false)), type := 4, pos := "locks.go:73", after := #[⟨8, .data⟩, ⟨13, .data⟩], guard := none }) (v := ?vb10) rfl (by kernel_rfl) (by kernel_rfl) (by kernel_rfl) (fun _ _ _ h => h) (Or.inl ⟨by rfl, ?rb10⟩) (by assumption) ?_
    case rb10 => (intro w hSw; (try dsimp only at hSw); (go_simp <;> with_reducible rfl))
    try simp only [Act.put, List.setIfInBounds_toArray, List.set_cons_zero, List.set_cons_succ]
    refine wpAnyH_take (i := 15) (oi := { dst := some 6, op := Go.Op.assign (Go.Operand.tmp 21), type := 4, pos := "locks.go:73", after := #[⟨14, .data⟩, ⟨12, .chain⟩, ⟨0, .phase⟩, ⟨1, .phase⟩, ⟨2, .phase⟩, ⟨3, .phase⟩, ⟨4, .phase⟩, ⟨5, .phase⟩, ⟨6, .phase⟩, ⟨7, .phase⟩, ⟨8, .phase⟩, ⟨9, .phase⟩, ⟨10, .phase⟩, ⟨11, .phase⟩, ⟨12, .phase⟩, ⟨13, .phase⟩, ⟨14, .phase⟩], guard := none }) (v := ?vb11) rfl (by kernel_rfl) (by kernel_rfl) (by kernel_rfl) (fun _ _ _ h => h) (Or.inl ⟨by rfl, ?rb11⟩) (by assumption) ?_
    case rb11 => (intro w hSw; (try dsimp only at hSw); (go_simp <;> with_reducible rfl))
    try simp only [Act.put, List.setIfInBounds_toArray, List.set_cons_zero, List.set_cons_succ]
    refine wpAnyH_done (by kernel_rfl) ?_ _
    have QF := Lib.hid (HGW.out.trans h7.1)
    clear h7 c0 x0 x1 x2 x3
    go_wp2
    go_ret
    exact ⟨by simp, QF.out⟩
end Go.Proofs.YtmgpnpmdmelnkaaGreatDoor
