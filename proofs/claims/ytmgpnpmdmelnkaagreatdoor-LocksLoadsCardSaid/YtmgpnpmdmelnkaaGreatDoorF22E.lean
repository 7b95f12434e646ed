import Derived.Test.YtmgpnpmdmelnkaaGreatDoorK9
import Derived.Test.YtmgpnpmdmelnkaaGreatDoorF22j
import Derived.WalkKit
import Derived.ProofKit
import Derived.LoopTactic
import Derived.Outline
import Derived.WalkSpells
import Derived.WalkLawsBesides
import Derived.Lib.Hide
import Derived.Deep.LoopGhost
import Derived.Deep.QuietTactic
import Derived.BigQuiet
import Derived.ShutString
import Derived.IntWalk
import Derived.Lib.MinMax
import Derived.Deep.RegionWith
import Derived.Deep.RegionHeld3
namespace Go.Proofs.YtmgpnpmdmelnkaaGreatDoor
open Go.ChangeShapes Go.WideShapes Go.ChangeAt Go.RowKit
set_option linter.unusedVariables false
set_option linter.unusedSimpArgs false
variable {w0 w : World} {b : Nat} {v1 v2 : Value} {B : Bk}
def roomB (B : Bk) (s : Int) : Bool := decide (0 < s) && decide (((cntS s B.H + cntS s B.W : Nat) : Int) < 8)
theorem room_any (s : Int) (w : World) (h : BkIs w0 w b v1 v2 B) (hl : B.H.length + B.W.length ≤ 500) :
    Calls Tryz.prog 56 #[.pointer (some ⟨b, 0, none⟩), .int .i64 s] w fun e w' => e = .returned (.bool (roomB B s)) ∧ Gr w w' := by
  have HC := Lib.hid (bcount_any s w h hl)
  unfold roomB
  generalize ((cntS s B.H + cntS s B.W : Nat) : Int) = c at *
  by_cases h0 : 0 < s
  · have e0 : decide (0 < s) = true := decide_eq_true h0
    have E0 := Lib.hid e0
    clear h h0
    go_enter Tryz.func56, Tryz.ntmps56
    go_wp2_with fail
    refine HC.out.mono ?_
    rintro e w2 ⟨rfl, hg⟩
    have HG := Lib.hid hg
    clear hg HC
    go_wp2
    go_ret
    exact ⟨by rw [E0.out]; rfl, HG.out⟩
  · have e0 : decide (0 < s) = false := decide_eq_false h0
    have E0 := Lib.hid e0
    clear h h0 HC
    go_enter Tryz.func56, Tryz.ntmps56
    go_wp2
    go_ret
    exact ⟨by rw [E0.out]; rfl, Gr.refl _⟩
noncomputable def afterB (L : List Lok) (x : Lok) : Bool := decide (L.length = 0) || decide (cmpK (L.getD (L.length - 1) zLok) x < 0)
noncomputable def holdB (B : Bk) (x : Lok) : Bool := afterB B.H x && roomB B x.ses && (decide (x.tok ≠ 0) && decide (x.tok ≤ B.last)) && !(B.H.any fun y => x.tok == y.tok) && !(B.H.any (cflB x))
set_option maxRecDepth 100000 in
set_option maxHeartbeats 8000000 in
theorem hold_any (x : Lok) (w : World) (h : BkIs w0 w b v1 v2 B) (hl : B.H.length + B.W.length ≤ 500) (hx : IsPath x.txt) (hH : ∀ y ∈ B.H, IsPath y.txt) (hM : ML w) :
    Calls Tryz.prog 35 #[.pointer (some ⟨b, 0, none⟩), .agg #[.int .i64 x.ses, .string x.txt, .bool x.ex, .int .u64 x.tok]] w fun e w' => e = .returned (.bool (holdB B x)) ∧ Gr w w' := by
  have HGW := Lib.hid ((Gr.refl w).alloc (.cells #[.int .i64 x.ses, .string x.txt, .bool x.ex, .int .u64 x.tok] 42))
  have HBX := Lib.hid (Blk.new w #[.int .i64 x.ses, .string x.txt, .bool x.ex, .int .u64 x.tok] 42)
  have c0 := HGW.out.cell (h.blk.cell (i := 0) rfl)
  have c2 := HGW.out.cell (h.blk.cell (i := 2) rfl)
  have he1 : ∀ args w, (callFunc 58 args).run Tryz.prog w = .ok (.enter 58 args) w := fun _ _ => by kernel_rfl
  have he2 : ∀ args w, (callFunc 59 args).run Tryz.prog w = .ok (.enter 59 args) w := fun _ _ => by kernel_rfl
  have HA1 := Lib.hid (fun w' (hg : Gr w w') => anyLokB_any (f := 58) (rv := .agg #[.int .i64 x.ses, .string x.txt, .bool x.ex, .int .u64 x.tok]) (fun y => x.tok == y.tok) B.H w' (ownsRow_gr hg h.r1) (by omega) he1 (fun y hy w0 _ => ltoken_any x y w0))
  have HA2 := Lib.hid (fun w' (hg : Gr w w') => anyLokB_any (f := 59) (rv := .agg #[.int .i64 x.ses, .string x.txt, .bool x.ex, .int .u64 x.tok]) (cflB x) B.H w' (ownsRow_gr hg h.r1) (by omega) he2 (fun y hy w0 _ => lconf_any x y w0 hx (hH y hy)))
  have HRM := Lib.hid (fun w' (hg : Gr w w') => room_any x.ses w' (h.gr hg) hl)
  have HLA := Lib.hid (fun j (hj : j < B.H.length) => lokrow_at h.r1 j hj)
  have HCM := Lib.hid (fun j (hj : j < B.H.length) w' (hg : Gr w w') => lcmp_any B.H[j] x w' (hH _ (List.getElem_mem hj)) hx (hM.gr hg))
  obtain ⟨a1, k1, rfl, _⟩ := ownsRow_slice h.r1
  have hn5 : B.H.length ≤ 500 := by omega
  have HEQ : Hid (holdB B x = (afterB B.H x && roomB B x.ses && (decide (x.tok ≠ 0) && decide (x.tok ≤ B.last)) && !(B.H.any fun y => x.tok == y.tok) && !(B.H.any (cflB x)))) := Lib.hid rfl
  generalize holdB B x = r at *
  generalize (B.H.any fun y => x.tok == y.tok) = q1 at *
  generalize B.H.any (cflB x) = q2 at *
  generalize roomB B x.ses = rm at *
  generalize B.last = la at *
  obtain ⟨xs, xt, xe, xk⟩ := x
  simp only at HGW HBX c0 c2 HA1 HA2 HRM HCM HEQ ⊢
  clear h he1 he2 hx hH hM hl
  have x0 := HBX.out.cell (i := 0) rfl
  have x1 := HBX.out.cell (i := 1) rfl
  have x2 := HBX.out.cell (i := 2) rfl
  have x3 := HBX.out.cell (i := 3) rfl
  rcases Nat.eq_zero_or_pos B.H.length with hn | hn
  · have hat : afterB B.H ⟨xs, xt, xe, xk⟩ = true := by unfold afterB; rw [hn]; rfl
    rw [hat, Bool.true_and] at HEQ
    clear HLA HCM hat
    generalize B.H.length = n1 at *
    subst hn
    go_enter Tryz.func35, Tryz.ntmps35
    go_upto_region 1 with fail
    generalize (w.alloc (.cells #[.int .i64 xs, .string xt, .bool xe, .int .u64 xk] 42)) = w2 at *
    go_upto_region 2 with fail
    go_wp2_with fail
    have HX : Hid (∀ w0 w9 : World, Gr w0 w9 → (fun w9 => Gr w2 w9 ∧ w9.cell? ⟨b, 0, none⟩ = some (.slice a1 0 k1) ∧ w9.cell? ⟨b, 2, none⟩ = some (.int .u64 la) ∧ w9.cell? ⟨w.heap.size, 0, none⟩ = some (.int .i64 xs) ∧ w9.cell? ⟨w.heap.size, 1, none⟩ = some (.string xt) ∧ w9.cell? ⟨w.heap.size, 2, none⟩ = some (.bool xe) ∧ w9.cell? ⟨w.heap.size, 3, none⟩ = some (.int .u64 xk)) w0 → (fun w9 => Gr w2 w9 ∧ w9.cell? ⟨b, 0, none⟩ = some (.slice a1 0 k1) ∧ w9.cell? ⟨b, 2, none⟩ = some (.int .u64 la) ∧ w9.cell? ⟨w.heap.size, 0, none⟩ = some (.int .i64 xs) ∧ w9.cell? ⟨w.heap.size, 1, none⟩ = some (.string xt) ∧ w9.cell? ⟨w.heap.size, 2, none⟩ = some (.bool xe) ∧ w9.cell? ⟨w.heap.size, 3, none⟩ = some (.int .u64 xk)) w9) := Lib.hid fun w0 w9 hg ⟨h, q0, q1, q2, q3, q4, q5⟩ => ⟨h.trans hg, hg.cell q0, hg.cell q1, hg.cell q2, hg.cell q3, hg.cell q4, hg.cell q5⟩
    refine wp_region_held_drew (S := (fun w9 => Gr w2 w9 ∧ w9.cell? ⟨b, 0, none⟩ = some (.slice a1 0 k1) ∧ w9.cell? ⟨b, 2, none⟩ = some (.int .u64 la) ∧ w9.cell? ⟨w.heap.size, 0, none⟩ = some (.int .i64 xs) ∧ w9.cell? ⟨w.heap.size, 1, none⟩ = some (.string xt) ∧ w9.cell? ⟨w.heap.size, 2, none⟩ = some (.bool xe) ∧ w9.cell? ⟨w.heap.size, 3, none⟩ = some (.int .u64 xk))) (by kernel_rfl) ?inva (fun h0 => ?_)
    case inva => ((try dsimp only); (exact HX.out _ _ ((Gr.refl _).drew) ⟨Gr.refl _, c0, c2, x0, x1, x2, x3⟩))
    refine wpAnyH_take (i := 0) (oi := { dst := some 11, op := Go.Op.move (Go.Operand.tmp 5), type := 3, pos := "load.go:34", after := #[], guard := none }) (v := ?va1) rfl (by kernel_rfl) (by kernel_rfl) (by kernel_rfl) (fun _ _ _ h => h) (Or.inl ⟨by rfl, ?ra1⟩) (by assumption) ?_
    case ra1 => (intro w hSw; (try dsimp only at hSw); (go_simp <;> with_reducible rfl))
    try simp only [Act.put, List.setIfInBounds_toArray, List.set_cons_zero, List.set_cons_succ]
    refine wpAnyH_take (i := 1) (oi := { dst := some 12, op := Go.Op.binOp Go.BinOp.gtr 3 (Go.Operand.tmp 11) (Go.Operand.const (Go.Value.int Go.IntKind.i64 0)) 3, type := 4, pos := "load.go:34", after := #[⟨0, .data⟩], guard := none }) (v := ?va2) rfl (by kernel_rfl) (by kernel_rfl) (by kernel_rfl) (fun _ _ _ h => h) (Or.inl ⟨by rfl, ?ra2⟩) (by assumption) ?_
    case ra2 => (intro w hSw; (try dsimp only at hSw); (go_simp <;> with_reducible rfl))
    try simp only [Act.put, List.setIfInBounds_toArray, List.set_cons_zero, List.set_cons_succ]
    refine wpAnyH_take (i := 2) (oi := { dst := some 13, op := Go.Op.move (Go.Operand.tmp 12), type := 4, pos := "load.go:34", after := #[⟨1, .data⟩], guard := none }) (v := ?va3) rfl (by kernel_rfl) (by kernel_rfl) (by kernel_rfl) (fun _ _ _ h => h) (Or.inl ⟨by rfl, ?ra3⟩) (by assumption) ?_
    case ra3 => (intro w hSw; (try dsimp only at hSw); (go_simp <;> with_reducible rfl))
    try simp only [Act.put, List.setIfInBounds_toArray, List.set_cons_zero, List.set_cons_succ]
    refine wpAnyH_take (i := 3) (oi := { dst := some 14, op := Go.Op.move (Go.Operand.tmp 0), type := 25, pos := "load.go:34", after := #[⟨2, .guard⟩], guard := some (2, true) }) (v := undef) rfl (by kernel_rfl) (by kernel_rfl) (by kernel_rfl) (fun _ _ _ h => h) (Or.inr ⟨by rfl, rfl⟩) (by assumption) ?_
    try simp only [Act.put, List.setIfInBounds_toArray, List.set_cons_zero, List.set_cons_succ]
    refine wpAnyH_take (i := 4) (oi := { dst := some 15, op := Go.Op.nilCheck (Go.Operand.tmp 14), type := 0, pos := "load.go:34", after := #[⟨3, .data⟩, ⟨2, .guard⟩], guard := some (2, true) }) (v := undef) rfl (by kernel_rfl) (by kernel_rfl) (by kernel_rfl) (fun _ _ _ h => h) (Or.inr ⟨by rfl, rfl⟩) (by assumption) ?_
    try simp only [Act.put, List.setIfInBounds_toArray, List.set_cons_zero, List.set_cons_succ]
    refine wpAnyH_take (i := 5) (oi := { dst := some 16, op := Go.Op.fieldAddr 69 (Go.Operand.tmp 15) 0, type := 0, pos := "load.go:34", after := #[⟨4, .data⟩, ⟨2, .guard⟩], guard := some (2, true) }) (v := undef) rfl (by kernel_rfl) (by kernel_rfl) (by kernel_rfl) (fun _ _ _ h => h) (Or.inr ⟨by rfl, rfl⟩) (by assumption) ?_
    try simp only [Act.put, List.setIfInBounds_toArray, List.set_cons_zero, List.set_cons_succ]
    refine wpAnyH_take (i := 6) (oi := { dst := some 17, op := Go.Op.load 37 (Go.Operand.tmp 16), type := 37, pos := "load.go:34", after := #[⟨5, .data⟩, ⟨2, .guard⟩], guard := some (2, true) }) (v := undef) rfl (by kernel_rfl) (by kernel_rfl) (by kernel_rfl) (fun _ _ _ h => h) (Or.inr ⟨by rfl, rfl⟩) (by assumption) ?_
    try simp only [Act.put, List.setIfInBounds_toArray, List.set_cons_zero, List.set_cons_succ]
    refine wpAnyH_take (i := 7) (oi := { dst := some 18, op := Go.Op.move (Go.Operand.tmp 5), type := 3, pos := "load.go:34", after := #[⟨2, .guard⟩], guard := some (2, true) }) (v := undef) rfl (by kernel_rfl) (by kernel_rfl) (by kernel_rfl) (fun _ _ _ h => h) (Or.inr ⟨by rfl, rfl⟩) (by assumption) ?_
    try simp only [Act.put, List.setIfInBounds_toArray, List.set_cons_zero, List.set_cons_succ]
    refine wpAnyH_take (i := 8) (oi := { dst := some 19, op := Go.Op.binOp Go.BinOp.sub 3 (Go.Operand.tmp 18) (Go.Operand.const (Go.Value.int Go.IntKind.i64 1)) 3, type := 3, pos := "load.go:34", after := #[⟨7, .data⟩, ⟨2, .guard⟩], guard := some (2, true) }) (v := undef) rfl (by kernel_rfl) (by kernel_rfl) (by kernel_rfl) (fun _ _ _ h => h) (Or.inr ⟨by rfl, rfl⟩) (by assumption) ?_
    try simp only [Act.put, List.setIfInBounds_toArray, List.set_cons_zero, List.set_cons_succ]
    refine wpAnyH_take (i := 9) (oi := { dst := some 20, op := Go.Op.indexAddr 37 (Go.Operand.tmp 17) (Go.Operand.tmp 19), type := 0, pos := "load.go:34", after := #[⟨6, .data⟩, ⟨8, .data⟩, ⟨2, .guard⟩], guard := some (2, true) }) (v := undef) rfl (by kernel_rfl) (by kernel_rfl) (by kernel_rfl) (fun _ _ _ h => h) (Or.inr ⟨by rfl, rfl⟩) (by assumption) ?_
    try simp only [Act.put, List.setIfInBounds_toArray, List.set_cons_zero, List.set_cons_succ]
    refine wpAnyH_take (i := 10) (oi := { dst := some 21, op := Go.Op.load 42 (Go.Operand.tmp 20), type := 42, pos := "load.go:34", after := #[⟨9, .data⟩, ⟨2, .guard⟩], guard := some (2, true) }) (v := undef) rfl (by kernel_rfl) (by kernel_rfl) (by kernel_rfl) (fun _ _ _ h => h) (Or.inr ⟨by rfl, rfl⟩) (by assumption) ?_
    try simp only [Act.put, List.setIfInBounds_toArray, List.set_cons_zero, List.set_cons_succ]
    refine wpAnyH_take (i := 11) (oi := { dst := some 22, op := Go.Op.load 42 (Go.Operand.tmp 3), type := 42, pos := "load.go:34", after := #[⟨2, .guard⟩], guard := some (2, true) }) (v := undef) rfl (by kernel_rfl) (by kernel_rfl) (by kernel_rfl) (fun _ _ _ h => h) (Or.inr ⟨by rfl, rfl⟩) (by assumption) ?_
    try simp only [Act.put, List.setIfInBounds_toArray, List.set_cons_zero, List.set_cons_succ]
    refine wpAnyH_take (i := 12) (oi := { dst := some 23, op := Go.Op.call { callee := Go.Callee.value (Go.Operand.func 55), args := #[Go.Operand.tmp 21, Go.Operand.tmp 22], argTypes := #[42, 42] }, type := 3, pos := "load.go:34", after := #[⟨10, .data⟩, ⟨11, .data⟩, ⟨2, .chain⟩, ⟨2, .guard⟩], guard := some (2, true) }) (v := undef) rfl (by kernel_rfl) (by kernel_rfl) (by kernel_rfl) (fun _ _ _ h => h) (Or.inr ⟨by rfl, rfl⟩) (by assumption) ?_
    try simp only [Act.put, List.setIfInBounds_toArray, List.set_cons_zero, List.set_cons_succ]
    refine wpAnyH_take (i := 13) (oi := { dst := some 24, op := Go.Op.binOp Go.BinOp.geq 3 (Go.Operand.tmp 23) (Go.Operand.const (Go.Value.int Go.IntKind.i64 0)) 3, type := 4, pos := "load.go:34", after := #[⟨12, .data⟩, ⟨2, .guard⟩], guard := some (2, true) }) (v := undef) rfl (by kernel_rfl) (by kernel_rfl) (by kernel_rfl) (fun _ _ _ h => h) (Or.inr ⟨by rfl, rfl⟩) (by assumption) ?_
    try simp only [Act.put, List.setIfInBounds_toArray, List.set_cons_zero, List.set_cons_succ]
    refine wpAnyH_take (i := 14) (oi := { dst := some 25, op := Go.Op.pick (Go.Operand.tmp 13) (Go.Operand.tmp 24) (Go.Operand.const (Go.Value.bool false)), type := 4, pos := "load.go:34", after := #[⟨2, .data⟩, ⟨13, .data⟩], guard := none }) (v := ?va4) rfl (by kernel_rfl) (by kernel_rfl) (by kernel_rfl) (fun _ _ _ h => h) (Or.inl ⟨by rfl, ?ra4⟩) (by assumption) ?_
    case ra4 => (intro w hSw; (try dsimp only at hSw); (go_simp <;> with_reducible rfl))
    try simp only [Act.put, List.setIfInBounds_toArray, List.set_cons_zero, List.set_cons_succ]
    refine wpAnyH_take (i := 15) (oi := { dst := some 26, op := Go.Op.move (Go.Operand.tmp 25), type := 4, pos := "load.go:34", after := #[⟨14, .data⟩, ⟨12, .chain⟩], guard := none }) (v := ?va5) rfl (by kernel_rfl) (by kernel_rfl) (by kernel_rfl) (fun _ _ _ h => h) (Or.inl ⟨by rfl, ?ra5⟩) (by assumption) ?_
    case ra5 => (intro w hSw; (try dsimp only at hSw); (go_simp <;> with_reducible rfl))
    try simp only [Act.put, List.setIfInBounds_toArray, List.set_cons_zero, List.set_cons_succ]
    refine wpAnyH_take (i := 16) (oi := { dst := some 27, op := Go.Op.move (Go.Operand.tmp 0), type := 25, pos := "load.go:34", after := #[⟨15, .guard⟩], guard := some (15, false) }) (v := ?va6) rfl (by kernel_rfl) (by kernel_rfl) (by kernel_rfl) (fun _ _ _ h => h) (Or.inl ⟨by rfl, ?ra6⟩) (by assumption) ?_
    case ra6 => (intro w hSw; (try dsimp only at hSw); (go_simp <;> with_reducible rfl))
    try simp only [Act.put, List.setIfInBounds_toArray, List.set_cons_zero, List.set_cons_succ]
    refine wpAnyH_take (i := 17) (oi := { dst := some 28, op := Go.Op.fieldAddr 42 (Go.Operand.tmp 3) 0, type := 0, pos := "load.go:34", after := #[⟨15, .guard⟩], guard := some (15, false) }) (v := ?va7) rfl (by kernel_rfl) (by kernel_rfl) (by kernel_rfl) (fun _ _ _ h => h) (Or.inl ⟨by rfl, ?ra7⟩) (by assumption) ?_
    case ra7 => (intro w hSw; (try dsimp only at hSw); (go_simp <;> with_reducible rfl))
    try simp only [Act.put, List.setIfInBounds_toArray, List.set_cons_zero, List.set_cons_succ]
    refine wpAnyH_take (i := 18) (oi := { dst := some 29, op := Go.Op.load 3 (Go.Operand.tmp 28), type := 3, pos := "load.go:34", after := #[⟨17, .data⟩, ⟨15, .guard⟩], guard := some (15, false) }) (v := ?va8) rfl (by kernel_rfl) (by kernel_rfl) (by kernel_rfl) (fun _ _ _ h => h) (Or.inl ⟨by rfl, ?ra8⟩) (by assumption) ?_
    case ra8 => (intro w hSw; (try dsimp only at hSw); (go_simp <;> with_reducible rfl))
    try simp only [Act.put, List.setIfInBounds_toArray, List.set_cons_zero, List.set_cons_succ]
    refine wpAnyH_ready (rs := [19]) (by kernel_rfl) (by simp) ?_
    refine AllReadyH.cons (o := { dst := some 30, op := Go.Op.call { callee := Go.Callee.value (Go.Operand.func 56), args := #[Go.Operand.tmp 27, Go.Operand.tmp 29], argTypes := #[25, 3] }, type := 4, pos := "load.go:34", after := #[⟨16, .data⟩, ⟨18, .data⟩, ⟨15, .chain⟩, ⟨15, .guard⟩], guard := some (15, false) }) rfl (fun K hK => ?_) AllReadyH.nil
    go_simp
    go_at_call 56
    refine (HRM.out _ (HGW.out.trans h0.1)).mono ?_
    rintro e w9 ⟨rfl, hgN⟩
    first | refine hK.out _ _ ?sa9 (fun h9 => ?_) | (go_wp2_with fail; refine hK.out _ _ ?sa9 (fun h9 => ?_))
    case sa9 => ((try dsimp only); (exact HX.out _ _ hgN h0))
    clear hK K h0
    try simp only [Act.put, List.setIfInBounds_toArray, List.set_cons_zero, List.set_cons_succ]
    refine wpAnyH_take (i := 20) (oi := { dst := some 31, op := Go.Op.unOp Go.UnOp.not 4 (Go.Operand.tmp 30), type := 4, pos := "load.go:34", after := #[⟨19, .data⟩, ⟨15, .guard⟩], guard := some (15, false) }) (v := ?va10) rfl (by kernel_rfl) (by kernel_rfl) (by kernel_rfl) (fun _ _ _ h => h) (Or.inl ⟨by rfl, ?ra10⟩) (by assumption) ?_
    case ra10 => (intro w hSw; (try dsimp only at hSw); (go_simp <;> with_reducible rfl))
    try simp only [Act.put, List.setIfInBounds_toArray, List.set_cons_zero, List.set_cons_succ]
    refine wpAnyH_take (i := 21) (oi := { dst := some 32, op := Go.Op.pick (Go.Operand.tmp 26) (Go.Operand.const (Go.Value.bool true)) (Go.Operand.tmp 31), type := 4, pos := "load.go:34", after := #[⟨15, .data⟩, ⟨20, .data⟩], guard := none }) (v := ?va11) rfl (by kernel_rfl) (by kernel_rfl) (by kernel_rfl) (fun _ _ _ h => h) (Or.inl ⟨by rfl, ?ra11⟩) (by assumption) ?_
    case ra11 => (intro w hSw; (try dsimp only at hSw); (go_simp <;> with_reducible rfl))
    try simp only [Act.put, List.setIfInBounds_toArray, List.set_cons_zero, List.set_cons_succ]
    refine wpAnyH_done (by kernel_rfl) ?_ _
    cases rm
    · rw [Bool.false_and, Bool.false_and, Bool.false_and] at HEQ
      have HG3 := Lib.hid (HGW.out.trans h9.1)
      clear h9 c0 c2 x0 x1 x2 x3
      go_wp2
      go_ret
      exact ⟨by rw [HEQ.out]; rfl, HG3.out⟩
    · rw [Bool.true_and] at HEQ
      have hz := h9.1
      have c0 := h9.2.1
      have c2 := h9.2.2.1
      have x0 := h9.2.2.2.1
      have x1 := h9.2.2.2.2.1
      have x2 := h9.2.2.2.2.2.1
      have x3 := h9.2.2.2.2.2.2
      clear h9 HRM HX
      have HX4 : Hid (∀ w0 w9 : World, Gr w0 w9 → (fun w9 => Gr w2 w9 ∧ w9.cell? ⟨b, 0, none⟩ = some (.slice a1 0 k1) ∧ w9.cell? ⟨b, 2, none⟩ = some (.int .u64 la) ∧ w9.cell? ⟨w.heap.size, 0, none⟩ = some (.int .i64 xs) ∧ w9.cell? ⟨w.heap.size, 1, none⟩ = some (.string xt) ∧ w9.cell? ⟨w.heap.size, 2, none⟩ = some (.bool xe) ∧ w9.cell? ⟨w.heap.size, 3, none⟩ = some (.int .u64 xk)) w0 → (fun w9 => Gr w2 w9 ∧ w9.cell? ⟨b, 0, none⟩ = some (.slice a1 0 k1) ∧ w9.cell? ⟨b, 2, none⟩ = some (.int .u64 la) ∧ w9.cell? ⟨w.heap.size, 0, none⟩ = some (.int .i64 xs) ∧ w9.cell? ⟨w.heap.size, 1, none⟩ = some (.string xt) ∧ w9.cell? ⟨w.heap.size, 2, none⟩ = some (.bool xe) ∧ w9.cell? ⟨w.heap.size, 3, none⟩ = some (.int .u64 xk)) w9) := Lib.hid fun w0 w9 hg ⟨h, q0, q1, q2, q3, q4, q5⟩ => ⟨h.trans hg, hg.cell q0, hg.cell q1, hg.cell q2, hg.cell q3, hg.cell q4, hg.cell q5⟩
      go_upto_region 4 with fail
      by_cases t0 : xk = 0
      · have e0 : (xk == 0) = true := by simpa using t0
        have hrf : r = false := by rw [HEQ.out, decide_eq_false (p := xk ≠ 0) (fun h => h t0)]; simp
        have HEQ := Lib.hid hrf
        clear t0 hrf
        go_wp2_with fail
        refine wp_region_held_drew (S := (fun w9 => Gr w2 w9 ∧ w9.cell? ⟨b, 0, none⟩ = some (.slice a1 0 k1) ∧ w9.cell? ⟨b, 2, none⟩ = some (.int .u64 la) ∧ w9.cell? ⟨w.heap.size, 0, none⟩ = some (.int .i64 xs) ∧ w9.cell? ⟨w.heap.size, 1, none⟩ = some (.string xt) ∧ w9.cell? ⟨w.heap.size, 2, none⟩ = some (.bool xe) ∧ w9.cell? ⟨w.heap.size, 3, none⟩ = some (.int .u64 xk))) (by kernel_rfl) ?invrat (fun h0 => ?_)
        case invrat => ((try dsimp only); (exact HX4.out _ _ ((Gr.refl _).drew) ⟨hz, c0, c2, x0, x1, x2, x3⟩))
        refine wpAnyH_take (i := 0) (oi := { dst := some 33, op := Go.Op.fieldAddr 42 (Go.Operand.tmp 3) 3, type := 0, pos := "load.go:37", after := #[], guard := none }) (v := ?vrat1) rfl (by kernel_rfl) (by kernel_rfl) (by kernel_rfl) (fun _ _ _ h => h) (Or.inl ⟨by rfl, ?rrat1⟩) (by assumption) ?_
        case rrat1 => (intro w hSw; (try dsimp only at hSw); (go_simp <;> with_reducible rfl))
        try simp only [Act.put, List.setIfInBounds_toArray, List.set_cons_zero, List.set_cons_succ]
        refine wpAnyH_take (i := 1) (oi := { dst := some 34, op := Go.Op.load 22 (Go.Operand.tmp 33), type := 22, pos := "load.go:37", after := #[⟨0, .data⟩], guard := none }) (v := ?vrat2) rfl (by kernel_rfl) (by kernel_rfl) (by kernel_rfl) (fun _ _ _ h => h) (Or.inl ⟨by rfl, ?rrat2⟩) (by assumption) ?_
        case rrat2 => (intro w hSw; (try dsimp only at hSw); (go_simp <;> with_reducible rfl))
        try simp only [Act.put, List.setIfInBounds_toArray, List.set_cons_zero, List.set_cons_succ]
        refine wpAnyH_take (i := 2) (oi := { dst := some 35, op := Go.Op.binOp Go.BinOp.eql 22 (Go.Operand.tmp 34) (Go.Operand.const (Go.Value.int Go.IntKind.u64 0)) 22, type := 4, pos := "load.go:37", after := #[⟨1, .data⟩], guard := none }) (v := ?vrat3) rfl (by kernel_rfl) (by kernel_rfl) (by kernel_rfl) (fun _ _ _ h => h) (Or.inl ⟨by rfl, ?rrat3⟩) (by assumption) ?_
        case rrat3 => (intro w hSw; (try dsimp only at hSw); (go_simp <;> with_reducible rfl))
        try simp only [Act.put, List.setIfInBounds_toArray, List.set_cons_zero, List.set_cons_succ]
        refine wpAnyH_take (i := 3) (oi := { dst := some 36, op := Go.Op.move (Go.Operand.tmp 35), type := 4, pos := "load.go:37", after := #[⟨2, .data⟩], guard := none }) (v := ?vrat4) rfl (by kernel_rfl) (by kernel_rfl) (by kernel_rfl) (fun _ _ _ h => h) (Or.inl ⟨by rfl, ?rrat4⟩) (by assumption) ?_
        case rrat4 => (intro w hSw; (try dsimp only at hSw); (go_simp <;> with_reducible rfl))
        try simp only [Act.put, List.setIfInBounds_toArray, List.set_cons_zero, List.set_cons_succ]
        refine wpAnyH_take (i := 4) (oi := { dst := some 37, op := Go.Op.fieldAddr 42 (Go.Operand.tmp 3) 3, type := 0, pos := "load.go:37", after := #[⟨3, .guard⟩], guard := some (3, false) }) (v := undef) rfl (by kernel_rfl) (by kernel_rfl) (by kernel_rfl) (fun _ _ _ h => h) (Or.inr ⟨by rfl, rfl⟩) (by assumption) ?_
        try simp only [Act.put, List.setIfInBounds_toArray, List.set_cons_zero, List.set_cons_succ]
        refine wpAnyH_take (i := 5) (oi := { dst := some 38, op := Go.Op.load 22 (Go.Operand.tmp 37), type := 22, pos := "load.go:37", after := #[⟨4, .data⟩, ⟨3, .guard⟩], guard := some (3, false) }) (v := undef) rfl (by kernel_rfl) (by kernel_rfl) (by kernel_rfl) (fun _ _ _ h => h) (Or.inr ⟨by rfl, rfl⟩) (by assumption) ?_
        try simp only [Act.put, List.setIfInBounds_toArray, List.set_cons_zero, List.set_cons_succ]
        refine wpAnyH_take (i := 6) (oi := { dst := some 39, op := Go.Op.move (Go.Operand.tmp 0), type := 25, pos := "load.go:37", after := #[⟨3, .guard⟩], guard := some (3, false) }) (v := undef) rfl (by kernel_rfl) (by kernel_rfl) (by kernel_rfl) (fun _ _ _ h => h) (Or.inr ⟨by rfl, rfl⟩) (by assumption) ?_
        try simp only [Act.put, List.setIfInBounds_toArray, List.set_cons_zero, List.set_cons_succ]
        refine wpAnyH_take (i := 7) (oi := { dst := some 40, op := Go.Op.nilCheck (Go.Operand.tmp 39), type := 0, pos := "load.go:37", after := #[⟨6, .data⟩, ⟨3, .guard⟩], guard := some (3, false) }) (v := undef) rfl (by kernel_rfl) (by kernel_rfl) (by kernel_rfl) (fun _ _ _ h => h) (Or.inr ⟨by rfl, rfl⟩) (by assumption) ?_
        try simp only [Act.put, List.setIfInBounds_toArray, List.set_cons_zero, List.set_cons_succ]
        refine wpAnyH_take (i := 8) (oi := { dst := some 41, op := Go.Op.fieldAddr 69 (Go.Operand.tmp 40) 2, type := 0, pos := "load.go:37", after := #[⟨7, .data⟩, ⟨3, .guard⟩], guard := some (3, false) }) (v := undef) rfl (by kernel_rfl) (by kernel_rfl) (by kernel_rfl) (fun _ _ _ h => h) (Or.inr ⟨by rfl, rfl⟩) (by assumption) ?_
        try simp only [Act.put, List.setIfInBounds_toArray, List.set_cons_zero, List.set_cons_succ]
        refine wpAnyH_take (i := 9) (oi := { dst := some 42, op := Go.Op.load 22 (Go.Operand.tmp 41), type := 22, pos := "load.go:37", after := #[⟨8, .data⟩, ⟨3, .guard⟩], guard := some (3, false) }) (v := undef) rfl (by kernel_rfl) (by kernel_rfl) (by kernel_rfl) (fun _ _ _ h => h) (Or.inr ⟨by rfl, rfl⟩) (by assumption) ?_
        try simp only [Act.put, List.setIfInBounds_toArray, List.set_cons_zero, List.set_cons_succ]
        refine wpAnyH_take (i := 10) (oi := { dst := some 43, op := Go.Op.binOp Go.BinOp.gtr 22 (Go.Operand.tmp 38) (Go.Operand.tmp 42) 22, type := 4, pos := "load.go:37", after := #[⟨5, .data⟩, ⟨9, .data⟩, ⟨3, .guard⟩], guard := some (3, false) }) (v := undef) rfl (by kernel_rfl) (by kernel_rfl) (by kernel_rfl) (fun _ _ _ h => h) (Or.inr ⟨by rfl, rfl⟩) (by assumption) ?_
        try simp only [Act.put, List.setIfInBounds_toArray, List.set_cons_zero, List.set_cons_succ]
        refine wpAnyH_take (i := 11) (oi := { dst := some 44, op := Go.Op.pick (Go.Operand.tmp 36) (Go.Operand.const (Go.Value.bool true)) (Go.Operand.tmp 43), type := 4, pos := "load.go:37", after := #[⟨3, .data⟩, ⟨10, .data⟩], guard := none }) (v := ?vrat5) rfl (by kernel_rfl) (by kernel_rfl) (by kernel_rfl) (fun _ _ _ h => h) (Or.inl ⟨by rfl, ?rrat5⟩) (by assumption) ?_
        case rrat5 => (intro w hSw; (try dsimp only at hSw); (go_simp <;> with_reducible rfl))
        try simp only [Act.put, List.setIfInBounds_toArray, List.set_cons_zero, List.set_cons_succ]
        refine wpAnyH_take (i := 12) (oi := { dst := some 45, op := Go.Op.move (Go.Operand.tmp 44), type := 4, pos := "load.go:37", after := #[⟨11, .data⟩, ⟨3, .chain⟩], guard := none }) (v := ?vrat6) rfl (by kernel_rfl) (by kernel_rfl) (by kernel_rfl) (fun _ _ _ h => h) (Or.inl ⟨by rfl, ?rrat6⟩) (by assumption) ?_
        case rrat6 => (intro w hSw; (try dsimp only at hSw); (go_simp <;> with_reducible rfl))
        try simp only [Act.put, List.setIfInBounds_toArray, List.set_cons_zero, List.set_cons_succ]
        refine wpAnyH_take (i := 13) (oi := { dst := some 46, op := Go.Op.move (Go.Operand.tmp 0), type := 25, pos := "load.go:37", after := #[⟨12, .guard⟩], guard := some (12, false) }) (v := undef) rfl (by kernel_rfl) (by kernel_rfl) (by kernel_rfl) (fun _ _ _ h => h) (Or.inr ⟨by rfl, rfl⟩) (by assumption) ?_
        try simp only [Act.put, List.setIfInBounds_toArray, List.set_cons_zero, List.set_cons_succ]
        refine wpAnyH_take (i := 14) (oi := { dst := some 47, op := Go.Op.nilCheck (Go.Operand.tmp 46), type := 0, pos := "load.go:37", after := #[⟨13, .data⟩, ⟨12, .guard⟩], guard := some (12, false) }) (v := undef) rfl (by kernel_rfl) (by kernel_rfl) (by kernel_rfl) (fun _ _ _ h => h) (Or.inr ⟨by rfl, rfl⟩) (by assumption) ?_
        try simp only [Act.put, List.setIfInBounds_toArray, List.set_cons_zero, List.set_cons_succ]
        refine wpAnyH_take (i := 15) (oi := { dst := some 48, op := Go.Op.fieldAddr 69 (Go.Operand.tmp 47) 0, type := 0, pos := "load.go:37", after := #[⟨14, .data⟩, ⟨12, .guard⟩], guard := some (12, false) }) (v := undef) rfl (by kernel_rfl) (by kernel_rfl) (by kernel_rfl) (fun _ _ _ h => h) (Or.inr ⟨by rfl, rfl⟩) (by assumption) ?_
        try simp only [Act.put, List.setIfInBounds_toArray, List.set_cons_zero, List.set_cons_succ]
        refine wpAnyH_take (i := 16) (oi := { dst := some 49, op := Go.Op.load 37 (Go.Operand.tmp 48), type := 37, pos := "load.go:37", after := #[⟨15, .data⟩, ⟨12, .guard⟩], guard := some (12, false) }) (v := undef) rfl (by kernel_rfl) (by kernel_rfl) (by kernel_rfl) (fun _ _ _ h => h) (Or.inr ⟨by rfl, rfl⟩) (by assumption) ?_
        try simp only [Act.put, List.setIfInBounds_toArray, List.set_cons_zero, List.set_cons_succ]
        refine wpAnyH_take (i := 17) (oi := { dst := some 50, op := Go.Op.load 42 (Go.Operand.tmp 3), type := 42, pos := "load.go:37", after := #[⟨12, .guard⟩], guard := some (12, false) }) (v := undef) rfl (by kernel_rfl) (by kernel_rfl) (by kernel_rfl) (fun _ _ _ h => h) (Or.inr ⟨by rfl, rfl⟩) (by assumption) ?_
        try simp only [Act.put, List.setIfInBounds_toArray, List.set_cons_zero, List.set_cons_succ]
        refine wpAnyH_take (i := 18) (oi := { dst := some 51, op := Go.Op.makeFunc (Go.Fn.func 58) #[Go.Operand.tmp 50] #[], type := 84, pos := "load.go:37", after := #[⟨17, .data⟩, ⟨12, .guard⟩], guard := some (12, false) }) (v := undef) rfl (by kernel_rfl) (by kernel_rfl) (by kernel_rfl) (fun _ _ _ h => h) (Or.inr ⟨by rfl, rfl⟩) (by assumption) ?_
        try simp only [Act.put, List.setIfInBounds_toArray, List.set_cons_zero, List.set_cons_succ]
        refine wpAnyH_take (i := 19) (oi := { dst := some 52, op := Go.Op.call { callee := Go.Callee.value (Go.Operand.func 57), args := #[Go.Operand.tmp 49, Go.Operand.tmp 51], argTypes := #[37, 84] }, type := 4, pos := "load.go:37", after := #[⟨16, .data⟩, ⟨18, .data⟩, ⟨12, .chain⟩, ⟨12, .guard⟩], guard := some (12, false) }) (v := undef) rfl (by kernel_rfl) (by kernel_rfl) (by kernel_rfl) (fun _ _ _ h => h) (Or.inr ⟨by rfl, rfl⟩) (by assumption) ?_
        try simp only [Act.put, List.setIfInBounds_toArray, List.set_cons_zero, List.set_cons_succ]
        refine wpAnyH_take (i := 20) (oi := { dst := some 53, op := Go.Op.pick (Go.Operand.tmp 45) (Go.Operand.const (Go.Value.bool true)) (Go.Operand.tmp 52), type := 4, pos := "load.go:37", after := #[⟨12, .data⟩, ⟨19, .data⟩], guard := none }) (v := ?vrat7) rfl (by kernel_rfl) (by kernel_rfl) (by kernel_rfl) (fun _ _ _ h => h) (Or.inl ⟨by rfl, ?rrat7⟩) (by assumption) ?_
        case rrat7 => (intro w hSw; (try dsimp only at hSw); (go_simp <;> with_reducible rfl))
        try simp only [Act.put, List.setIfInBounds_toArray, List.set_cons_zero, List.set_cons_succ]
        refine wpAnyH_done (by kernel_rfl) ?_ _
        have HG4 := Lib.hid (HGW.out.trans h0.1)
        clear h0 c0 c2 x0 x1 x2 x3
        go_wp2
        go_ret
        exact ⟨(by rw [HEQ.out]; try rfl), HG4.out⟩
      · have e0 : (xk == 0) = false := by simpa using t0
        by_cases t1 : la < xk
        · have d1 : decide (la < xk) = true := decide_eq_true t1
          have hrf : r = false := by rw [HEQ.out, decide_eq_false (p := xk ≤ la) (by omega)]; simp
          have HEQ := Lib.hid hrf
          clear t0 t1 hrf
          go_wp2_with fail
          refine wp_region_held_drew (S := (fun w9 => Gr w2 w9 ∧ w9.cell? ⟨b, 0, none⟩ = some (.slice a1 0 k1) ∧ w9.cell? ⟨b, 2, none⟩ = some (.int .u64 la) ∧ w9.cell? ⟨w.heap.size, 0, none⟩ = some (.int .i64 xs) ∧ w9.cell? ⟨w.heap.size, 1, none⟩ = some (.string xt) ∧ w9.cell? ⟨w.heap.size, 2, none⟩ = some (.bool xe) ∧ w9.cell? ⟨w.heap.size, 3, none⟩ = some (.int .u64 xk))) (by kernel_rfl) ?invrau (fun h0 => ?_)
          case invrau => ((try dsimp only); (exact HX4.out _ _ ((Gr.refl _).drew) ⟨hz, c0, c2, x0, x1, x2, x3⟩))
          refine wpAnyH_take (i := 0) (oi := { dst := some 33, op := Go.Op.fieldAddr 42 (Go.Operand.tmp 3) 3, type := 0, pos := "load.go:37", after := #[], guard := none }) (v := ?vrau1) rfl (by kernel_rfl) (by kernel_rfl) (by kernel_rfl) (fun _ _ _ h => h) (Or.inl ⟨by rfl, ?rrau1⟩) (by assumption) ?_
          case rrau1 => (intro w hSw; (try dsimp only at hSw); (go_simp <;> with_reducible rfl))
          try simp only [Act.put, List.setIfInBounds_toArray, List.set_cons_zero, List.set_cons_succ]
          refine wpAnyH_take (i := 1) (oi := { dst := some 34, op := Go.Op.load 22 (Go.Operand.tmp 33), type := 22, pos := "load.go:37", after := #[⟨0, .data⟩], guard := none }) (v := ?vrau2) rfl (by kernel_rfl) (by kernel_rfl) (by kernel_rfl) (fun _ _ _ h => h) (Or.inl ⟨by rfl, ?rrau2⟩) (by assumption) ?_
          case rrau2 => (intro w hSw; (try dsimp only at hSw); (go_simp <;> with_reducible rfl))
          try simp only [Act.put, List.setIfInBounds_toArray, List.set_cons_zero, List.set_cons_succ]
          refine wpAnyH_take (i := 2) (oi := { dst := some 35, op := Go.Op.binOp Go.BinOp.eql 22 (Go.Operand.tmp 34) (Go.Operand.const (Go.Value.int Go.IntKind.u64 0)) 22, type := 4, pos := "load.go:37", after := #[⟨1, .data⟩], guard := none }) (v := ?vrau3) rfl (by kernel_rfl) (by kernel_rfl) (by kernel_rfl) (fun _ _ _ h => h) (Or.inl ⟨by rfl, ?rrau3⟩) (by assumption) ?_
          case rrau3 => (intro w hSw; (try dsimp only at hSw); (go_simp <;> with_reducible rfl))
          try simp only [Act.put, List.setIfInBounds_toArray, List.set_cons_zero, List.set_cons_succ]
          refine wpAnyH_take (i := 3) (oi := { dst := some 36, op := Go.Op.move (Go.Operand.tmp 35), type := 4, pos := "load.go:37", after := #[⟨2, .data⟩], guard := none }) (v := ?vrau4) rfl (by kernel_rfl) (by kernel_rfl) (by kernel_rfl) (fun _ _ _ h => h) (Or.inl ⟨by rfl, ?rrau4⟩) (by assumption) ?_
          case rrau4 => (intro w hSw; (try dsimp only at hSw); (go_simp <;> with_reducible rfl))
          try simp only [Act.put, List.setIfInBounds_toArray, List.set_cons_zero, List.set_cons_succ]
          refine wpAnyH_take (i := 4) (oi := { dst := some 37, op := Go.Op.fieldAddr 42 (Go.Operand.tmp 3) 3, type := 0, pos := "load.go:37", after := #[⟨3, .guard⟩], guard := some (3, false) }) (v := ?vrau5) rfl (by kernel_rfl) (by kernel_rfl) (by kernel_rfl) (fun _ _ _ h => h) (Or.inl ⟨by rfl, ?rrau5⟩) (by assumption) ?_
          case rrau5 => (intro w hSw; (try dsimp only at hSw); (go_simp <;> with_reducible rfl))
          try simp only [Act.put, List.setIfInBounds_toArray, List.set_cons_zero, List.set_cons_succ]
          refine wpAnyH_take (i := 5) (oi := { dst := some 38, op := Go.Op.load 22 (Go.Operand.tmp 37), type := 22, pos := "load.go:37", after := #[⟨4, .data⟩, ⟨3, .guard⟩], guard := some (3, false) }) (v := ?vrau6) rfl (by kernel_rfl) (by kernel_rfl) (by kernel_rfl) (fun _ _ _ h => h) (Or.inl ⟨by rfl, ?rrau6⟩) (by assumption) ?_
          case rrau6 => (intro w hSw; (try dsimp only at hSw); (go_simp <;> with_reducible rfl))
          try simp only [Act.put, List.setIfInBounds_toArray, List.set_cons_zero, List.set_cons_succ]
          refine wpAnyH_take (i := 6) (oi := { dst := some 39, op := Go.Op.move (Go.Operand.tmp 0), type := 25, pos := "load.go:37", after := #[⟨3, .guard⟩], guard := some (3, false) }) (v := ?vrau7) rfl (by kernel_rfl) (by kernel_rfl) (by kernel_rfl) (fun _ _ _ h => h) (Or.inl ⟨by rfl, ?rrau7⟩) (by assumption) ?_
          case rrau7 => (intro w hSw; (try dsimp only at hSw); (go_simp <;> with_reducible rfl))
          try simp only [Act.put, List.setIfInBounds_toArray, List.set_cons_zero, List.set_cons_succ]
          refine wpAnyH_take (i := 7) (oi := { dst := some 40, op := Go.Op.nilCheck (Go.Operand.tmp 39), type := 0, pos := "load.go:37", after := #[⟨6, .data⟩, ⟨3, .guard⟩], guard := some (3, false) }) (v := ?vrau8) rfl (by kernel_rfl) (by kernel_rfl) (by kernel_rfl) (fun _ _ _ h => h) (Or.inl ⟨by rfl, ?rrau8⟩) (by assumption) ?_
          case rrau8 => (intro w hSw; (try dsimp only at hSw); (go_simp <;> with_reducible rfl))
          try simp only [Act.put, List.setIfInBounds_toArray, List.set_cons_zero, List.set_cons_succ]
          refine wpAnyH_take (i := 8) (oi := { dst := some 41, op := Go.Op.fieldAddr 69 (Go.Operand.tmp 40) 2, type := 0, pos := "load.go:37", after := #[⟨7, .data⟩, ⟨3, .guard⟩], guard := some (3, false) }) (v := ?vrau9) rfl (by kernel_rfl) (by kernel_rfl) (by kernel_rfl) (fun _ _ _ h => h) (Or.inl ⟨by rfl, ?rrau9⟩) (by assumption) ?_
          case rrau9 => (intro w hSw; (try dsimp only at hSw); (go_simp <;> with_reducible rfl))
          try simp only [Act.put, List.setIfInBounds_toArray, List.set_cons_zero, List.set_cons_succ]
          refine wpAnyH_take (i := 9) (oi := { dst := some 42, op := Go.Op.load 22 (Go.Operand.tmp 41), type := 22, pos := "load.go:37", after := #[⟨8, .data⟩, ⟨3, .guard⟩], guard := some (3, false) }) (v := ?vrau10) rfl (by kernel_rfl) (by kernel_rfl) (by kernel_rfl) (fun _ _ _ h => h) (Or.inl ⟨by rfl, ?rrau10⟩) (by assumption) ?_
          case rrau10 => (intro w hSw; (try dsimp only at hSw); (go_simp <;> with_reducible rfl))
          try simp only [Act.put, List.setIfInBounds_toArray, List.set_cons_zero, List.set_cons_succ]
          refine wpAnyH_take (i := 10) (oi := { dst := some 43, op := Go.Op.binOp Go.BinOp.gtr 22 (Go.Operand.tmp 38) (Go.Operand.tmp 42) 22, type := 4, pos := "load.go:37", after := #[⟨5, .data⟩, ⟨9, .data⟩, ⟨3, .guard⟩], guard := some (3, false) }) (v := ?vrau11) rfl (by kernel_rfl) (by kernel_rfl) (by kernel_rfl) (fun _ _ _ h => h) (Or.inl ⟨by rfl, ?rrau11⟩) (by assumption) ?_
          case rrau11 => (intro w hSw; (try dsimp only at hSw); (go_simp <;> with_reducible rfl))
          try simp only [Act.put, List.setIfInBounds_toArray, List.set_cons_zero, List.set_cons_succ]
          refine wpAnyH_take (i := 11) (oi := { dst := some 44, op := Go.Op.pick (Go.Operand.tmp 36) (Go.Operand.const (Go.Value.bool true)) (Go.Operand.tmp 43), type := 4, pos := "load.go:37", after := #[⟨3, .data⟩, ⟨10, .data⟩], guard := none }) (v := ?vrau12) rfl (by kernel_rfl) (by kernel_rfl) (by kernel_rfl) (fun _ _ _ h => h) (Or.inl ⟨by rfl, ?rrau12⟩) (by assumption) ?_
          case rrau12 => (intro w hSw; (try dsimp only at hSw); (go_simp <;> with_reducible rfl))
          try simp only [Act.put, List.setIfInBounds_toArray, List.set_cons_zero, List.set_cons_succ]
          refine wpAnyH_take (i := 12) (oi := { dst := some 45, op := Go.Op.move (Go.Operand.tmp 44), type := 4, pos := "load.go:37", after := #[⟨11, .data⟩, ⟨3, .chain⟩], guard := none }) (v := ?vrau13) rfl (by kernel_rfl) (by kernel_rfl) (by kernel_rfl) (fun _ _ _ h => h) (Or.inl ⟨by rfl, ?rrau13⟩) (by assumption) ?_
          case rrau13 => (intro w hSw; (try dsimp only at hSw); (go_simp <;> with_reducible rfl))
          try simp only [Act.put, List.setIfInBounds_toArray, List.set_cons_zero, List.set_cons_succ]
          refine wpAnyH_take (i := 13) (oi := { dst := some 46, op := Go.Op.move (Go.Operand.tmp 0), type := 25, pos := "load.go:37", after := #[⟨12, .guard⟩], guard := some (12, false) }) (v := undef) rfl (by kernel_rfl) (by kernel_rfl) (by kernel_rfl) (fun _ _ _ h => h) (Or.inr ⟨by rfl, rfl⟩) (by assumption) ?_
          try simp only [Act.put, List.setIfInBounds_toArray, List.set_cons_zero, List.set_cons_succ]
          refine wpAnyH_take (i := 14) (oi := { dst := some 47, op := Go.Op.nilCheck (Go.Operand.tmp 46), type := 0, pos := "load.go:37", after := #[⟨13, .data⟩, ⟨12, .guard⟩], guard := some (12, false) }) (v := undef) rfl (by kernel_rfl) (by kernel_rfl) (by kernel_rfl) (fun _ _ _ h => h) (Or.inr ⟨by rfl, rfl⟩) (by assumption) ?_
          try simp only [Act.put, List.setIfInBounds_toArray, List.set_cons_zero, List.set_cons_succ]
          refine wpAnyH_take (i := 15) (oi := { dst := some 48, op := Go.Op.fieldAddr 69 (Go.Operand.tmp 47) 0, type := 0, pos := "load.go:37", after := #[⟨14, .data⟩, ⟨12, .guard⟩], guard := some (12, false) }) (v := undef) rfl (by kernel_rfl) (by kernel_rfl) (by kernel_rfl) (fun _ _ _ h => h) (Or.inr ⟨by rfl, rfl⟩) (by assumption) ?_
          try simp only [Act.put, List.setIfInBounds_toArray, List.set_cons_zero, List.set_cons_succ]
          refine wpAnyH_take (i := 16) (oi := { dst := some 49, op := Go.Op.load 37 (Go.Operand.tmp 48), type := 37, pos := "load.go:37", after := #[⟨15, .data⟩, ⟨12, .guard⟩], guard := some (12, false) }) (v := undef) rfl (by kernel_rfl) (by kernel_rfl) (by kernel_rfl) (fun _ _ _ h => h) (Or.inr ⟨by rfl, rfl⟩) (by assumption) ?_
          try simp only [Act.put, List.setIfInBounds_toArray, List.set_cons_zero, List.set_cons_succ]
          refine wpAnyH_take (i := 17) (oi := { dst := some 50, op := Go.Op.load 42 (Go.Operand.tmp 3), type := 42, pos := "load.go:37", after := #[⟨12, .guard⟩], guard := some (12, false) }) (v := undef) rfl (by kernel_rfl) (by kernel_rfl) (by kernel_rfl) (fun _ _ _ h => h) (Or.inr ⟨by rfl, rfl⟩) (by assumption) ?_
          try simp only [Act.put, List.setIfInBounds_toArray, List.set_cons_zero, List.set_cons_succ]
          refine wpAnyH_take (i := 18) (oi := { dst := some 51, op := Go.Op.makeFunc (Go.Fn.func 58) #[Go.Operand.tmp 50] #[], type := 84, pos := "load.go:37", after := #[⟨17, .data⟩, ⟨12, .guard⟩], guard := some (12, false) }) (v := undef) rfl (by kernel_rfl) (by kernel_rfl) (by kernel_rfl) (fun _ _ _ h => h) (Or.inr ⟨by rfl, rfl⟩) (by assumption) ?_
          try simp only [Act.put, List.setIfInBounds_toArray, List.set_cons_zero, List.set_cons_succ]
          refine wpAnyH_take (i := 19) (oi := { dst := some 52, op := Go.Op.call { callee := Go.Callee.value (Go.Operand.func 57), args := #[Go.Operand.tmp 49, Go.Operand.tmp 51], argTypes := #[37, 84] }, type := 4, pos := "load.go:37", after := #[⟨16, .data⟩, ⟨18, .data⟩, ⟨12, .chain⟩, ⟨12, .guard⟩], guard := some (12, false) }) (v := undef) rfl (by kernel_rfl) (by kernel_rfl) (by kernel_rfl) (fun _ _ _ h => h) (Or.inr ⟨by rfl, rfl⟩) (by assumption) ?_
          try simp only [Act.put, List.setIfInBounds_toArray, List.set_cons_zero, List.set_cons_succ]
          refine wpAnyH_take (i := 20) (oi := { dst := some 53, op := Go.Op.pick (Go.Operand.tmp 45) (Go.Operand.const (Go.Value.bool true)) (Go.Operand.tmp 52), type := 4, pos := "load.go:37", after := #[⟨12, .data⟩, ⟨19, .data⟩], guard := none }) (v := ?vrau14) rfl (by kernel_rfl) (by kernel_rfl) (by kernel_rfl) (fun _ _ _ h => h) (Or.inl ⟨by rfl, ?rrau14⟩) (by assumption) ?_
          case rrau14 => (intro w hSw; (try dsimp only at hSw); (go_simp <;> with_reducible rfl))
          try simp only [Act.put, List.setIfInBounds_toArray, List.set_cons_zero, List.set_cons_succ]
          refine wpAnyH_done (by kernel_rfl) ?_ _
          have HG4 := Lib.hid (HGW.out.trans h0.1)
          clear h0 c0 c2 x0 x1 x2 x3
          go_wp2
          go_ret
          exact ⟨(by rw [HEQ.out]; try rfl), HG4.out⟩
        · have d1 : decide (la < xk) = false := decide_eq_false t1
          rw [decide_eq_true t0, decide_eq_true (p := xk ≤ la) (by omega), Bool.true_and, Bool.true_and] at HEQ
          clear t0 t1
          go_wp2_with fail
          refine wp_region_held_drew (S := (fun w9 => Gr w2 w9 ∧ w9.cell? ⟨b, 0, none⟩ = some (.slice a1 0 k1) ∧ w9.cell? ⟨b, 2, none⟩ = some (.int .u64 la) ∧ w9.cell? ⟨w.heap.size, 0, none⟩ = some (.int .i64 xs) ∧ w9.cell? ⟨w.heap.size, 1, none⟩ = some (.string xt) ∧ w9.cell? ⟨w.heap.size, 2, none⟩ = some (.bool xe) ∧ w9.cell? ⟨w.heap.size, 3, none⟩ = some (.int .u64 xk))) (by kernel_rfl) ?invrav (fun h0 => ?_)
          case invrav => ((try dsimp only); (exact HX4.out _ _ ((Gr.refl _).drew) ⟨hz, c0, c2, x0, x1, x2, x3⟩))
          refine wpAnyH_take (i := 0) (oi := { dst := some 33, op := Go.Op.fieldAddr 42 (Go.Operand.tmp 3) 3, type := 0, pos := "load.go:37", after := #[], guard := none }) (v := ?vrav1) rfl (by kernel_rfl) (by kernel_rfl) (by kernel_rfl) (fun _ _ _ h => h) (Or.inl ⟨by rfl, ?rrav1⟩) (by assumption) ?_
          case rrav1 => (intro w hSw; (try dsimp only at hSw); (go_simp <;> with_reducible rfl))
          try simp only [Act.put, List.setIfInBounds_toArray, List.set_cons_zero, List.set_cons_succ]
          refine wpAnyH_take (i := 1) (oi := { dst := some 34, op := Go.Op.load 22 (Go.Operand.tmp 33), type := 22, pos := "load.go:37", after := #[⟨0, .data⟩], guard := none }) (v := ?vrav2) rfl (by kernel_rfl) (by kernel_rfl) (by kernel_rfl) (fun _ _ _ h => h) (Or.inl ⟨by rfl, ?rrav2⟩) (by assumption) ?_
          case rrav2 => (intro w hSw; (try dsimp only at hSw); (go_simp <;> with_reducible rfl))
          try simp only [Act.put, List.setIfInBounds_toArray, List.set_cons_zero, List.set_cons_succ]
          refine wpAnyH_take (i := 2) (oi := { dst := some 35, op := Go.Op.binOp Go.BinOp.eql 22 (Go.Operand.tmp 34) (Go.Operand.const (Go.Value.int Go.IntKind.u64 0)) 22, type := 4, pos := "load.go:37", after := #[⟨1, .data⟩], guard := none }) (v := ?vrav3) rfl (by kernel_rfl) (by kernel_rfl) (by kernel_rfl) (fun _ _ _ h => h) (Or.inl ⟨by rfl, ?rrav3⟩) (by assumption) ?_
          case rrav3 => (intro w hSw; (try dsimp only at hSw); (go_simp <;> with_reducible rfl))
          try simp only [Act.put, List.setIfInBounds_toArray, List.set_cons_zero, List.set_cons_succ]
          refine wpAnyH_take (i := 3) (oi := { dst := some 36, op := Go.Op.move (Go.Operand.tmp 35), type := 4, pos := "load.go:37", after := #[⟨2, .data⟩], guard := none }) (v := ?vrav4) rfl (by kernel_rfl) (by kernel_rfl) (by kernel_rfl) (fun _ _ _ h => h) (Or.inl ⟨by rfl, ?rrav4⟩) (by assumption) ?_
          case rrav4 => (intro w hSw; (try dsimp only at hSw); (go_simp <;> with_reducible rfl))
          try simp only [Act.put, List.setIfInBounds_toArray, List.set_cons_zero, List.set_cons_succ]
          refine wpAnyH_take (i := 4) (oi := { dst := some 37, op := Go.Op.fieldAddr 42 (Go.Operand.tmp 3) 3, type := 0, pos := "load.go:37", after := #[⟨3, .guard⟩], guard := some (3, false) }) (v := ?vrav5) rfl (by kernel_rfl) (by kernel_rfl) (by kernel_rfl) (fun _ _ _ h => h) (Or.inl ⟨by rfl, ?rrav5⟩) (by assumption) ?_
          case rrav5 => (intro w hSw; (try dsimp only at hSw); (go_simp <;> with_reducible rfl))
          try simp only [Act.put, List.setIfInBounds_toArray, List.set_cons_zero, List.set_cons_succ]
          refine wpAnyH_take (i := 5) (oi := { dst := some 38, op := Go.Op.load 22 (Go.Operand.tmp 37), type := 22, pos := "load.go:37", after := #[⟨4, .data⟩, ⟨3, .guard⟩], guard := some (3, false) }) (v := ?vrav6) rfl (by kernel_rfl) (by kernel_rfl) (by kernel_rfl) (fun _ _ _ h => h) (Or.inl ⟨by rfl, ?rrav6⟩) (by assumption) ?_
          case rrav6 => (intro w hSw; (try dsimp only at hSw); (go_simp <;> with_reducible rfl))
          try simp only [Act.put, List.setIfInBounds_toArray, List.set_cons_zero, List.set_cons_succ]
          refine wpAnyH_take (i := 6) (oi := { dst := some 39, op := Go.Op.move (Go.Operand.tmp 0), type := 25, pos := "load.go:37", after := #[⟨3, .guard⟩], guard := some (3, false) }) (v := ?vrav7) rfl (by kernel_rfl) (by kernel_rfl) (by kernel_rfl) (fun _ _ _ h => h) (Or.inl ⟨by rfl, ?rrav7⟩) (by assumption) ?_
          case rrav7 => (intro w hSw; (try dsimp only at hSw); (go_simp <;> with_reducible rfl))
          try simp only [Act.put, List.setIfInBounds_toArray, List.set_cons_zero, List.set_cons_succ]
          refine wpAnyH_take (i := 7) (oi := { dst := some 40, op := Go.Op.nilCheck (Go.Operand.tmp 39), type := 0, pos := "load.go:37", after := #[⟨6, .data⟩, ⟨3, .guard⟩], guard := some (3, false) }) (v := ?vrav8) rfl (by kernel_rfl) (by kernel_rfl) (by kernel_rfl) (fun _ _ _ h => h) (Or.inl ⟨by rfl, ?rrav8⟩) (by assumption) ?_
          case rrav8 => (intro w hSw; (try dsimp only at hSw); (go_simp <;> with_reducible rfl))
          try simp only [Act.put, List.setIfInBounds_toArray, List.set_cons_zero, List.set_cons_succ]
          refine wpAnyH_take (i := 8) (oi := { dst := some 41, op := Go.Op.fieldAddr 69 (Go.Operand.tmp 40) 2, type := 0, pos := "load.go:37", after := #[⟨7, .data⟩, ⟨3, .guard⟩], guard := some (3, false) }) (v := ?vrav9) rfl (by kernel_rfl) (by kernel_rfl) (by kernel_rfl) (fun _ _ _ h => h) (Or.inl ⟨by rfl, ?rrav9⟩) (by assumption) ?_
          case rrav9 => (intro w hSw; (try dsimp only at hSw); (go_simp <;> with_reducible rfl))
          try simp only [Act.put, List.setIfInBounds_toArray, List.set_cons_zero, List.set_cons_succ]
          refine wpAnyH_take (i := 9) (oi := { dst := some 42, op := Go.Op.load 22 (Go.Operand.tmp 41), type := 22, pos := "load.go:37", after := #[⟨8, .data⟩, ⟨3, .guard⟩], guard := some (3, false) }) (v := ?vrav10) rfl (by kernel_rfl) (by kernel_rfl) (by kernel_rfl) (fun _ _ _ h => h) (Or.inl ⟨by rfl, ?rrav10⟩) (by assumption) ?_
          case rrav10 => (intro w hSw; (try dsimp only at hSw); (go_simp <;> with_reducible rfl))
          try simp only [Act.put, List.setIfInBounds_toArray, List.set_cons_zero, List.set_cons_succ]
          refine wpAnyH_take (i := 10) (oi := { dst := some 43, op := Go.Op.binOp Go.BinOp.gtr 22 (Go.Operand.tmp 38) (Go.Operand.tmp 42) 22, type := 4, pos := "load.go:37", after := #[⟨5, .data⟩, ⟨9, .data⟩, ⟨3, .guard⟩], guard := some (3, false) }) (v := ?vrav11) rfl (by kernel_rfl) (by kernel_rfl) (by kernel_rfl) (fun _ _ _ h => h) (Or.inl ⟨by rfl, ?rrav11⟩) (by assumption) ?_
          case rrav11 => (intro w hSw; (try dsimp only at hSw); (go_simp <;> with_reducible rfl))
          try simp only [Act.put, List.setIfInBounds_toArray, List.set_cons_zero, List.set_cons_succ]
          refine wpAnyH_take (i := 11) (oi := { dst := some 44, op := Go.Op.pick (Go.Operand.tmp 36) (Go.Operand.const (Go.Value.bool true)) (Go.Operand.tmp 43), type := 4, pos := "load.go:37", after := #[⟨3, .data⟩, ⟨10, .data⟩], guard := none }) (v := ?vrav12) rfl (by kernel_rfl) (by kernel_rfl) (by kernel_rfl) (fun _ _ _ h => h) (Or.inl ⟨by rfl, ?rrav12⟩) (by assumption) ?_
          case rrav12 => (intro w hSw; (try dsimp only at hSw); (go_simp <;> with_reducible rfl))
          try simp only [Act.put, List.setIfInBounds_toArray, List.set_cons_zero, List.set_cons_succ]
          refine wpAnyH_take (i := 12) (oi := { dst := some 45, op := Go.Op.move (Go.Operand.tmp 44), type := 4, pos := "load.go:37", after := #[⟨11, .data⟩, ⟨3, .chain⟩], guard := none }) (v := ?vrav13) rfl (by kernel_rfl) (by kernel_rfl) (by kernel_rfl) (fun _ _ _ h => h) (Or.inl ⟨by rfl, ?rrav13⟩) (by assumption) ?_
          case rrav13 => (intro w hSw; (try dsimp only at hSw); (go_simp <;> with_reducible rfl))
          try simp only [Act.put, List.setIfInBounds_toArray, List.set_cons_zero, List.set_cons_succ]
          refine wpAnyH_take (i := 13) (oi := { dst := some 46, op := Go.Op.move (Go.Operand.tmp 0), type := 25, pos := "load.go:37", after := #[⟨12, .guard⟩], guard := some (12, false) }) (v := ?vrav14) rfl (by kernel_rfl) (by kernel_rfl) (by kernel_rfl) (fun _ _ _ h => h) (Or.inl ⟨by rfl, ?rrav14⟩) (by assumption) ?_
          case rrav14 => (intro w hSw; (try dsimp only at hSw); (go_simp <;> with_reducible rfl))
          try simp only [Act.put, List.setIfInBounds_toArray, List.set_cons_zero, List.set_cons_succ]
          refine wpAnyH_take (i := 14) (oi := { dst := some 47, op := Go.Op.nilCheck (Go.Operand.tmp 46), type := 0, pos := "load.go:37", after := #[⟨13, .data⟩, ⟨12, .guard⟩], guard := some (12, false) }) (v := ?vrav15) rfl (by kernel_rfl) (by kernel_rfl) (by kernel_rfl) (fun _ _ _ h => h) (Or.inl ⟨by rfl, ?rrav15⟩) (by assumption) ?_
          case rrav15 => (intro w hSw; (try dsimp only at hSw); (go_simp <;> with_reducible rfl))
          try simp only [Act.put, List.setIfInBounds_toArray, List.set_cons_zero, List.set_cons_succ]
          refine wpAnyH_take (i := 15) (oi := { dst := some 48, op := Go.Op.fieldAddr 69 (Go.Operand.tmp 47) 0, type := 0, pos := "load.go:37", after := #[⟨14, .data⟩, ⟨12, .guard⟩], guard := some (12, false) }) (v := ?vrav16) rfl (by kernel_rfl) (by kernel_rfl) (by kernel_rfl) (fun _ _ _ h => h) (Or.inl ⟨by rfl, ?rrav16⟩) (by assumption) ?_
          case rrav16 => (intro w hSw; (try dsimp only at hSw); (go_simp <;> with_reducible rfl))
          try simp only [Act.put, List.setIfInBounds_toArray, List.set_cons_zero, List.set_cons_succ]
          refine wpAnyH_take (i := 16) (oi := { dst := some 49, op := Go.Op.load 37 (Go.Operand.tmp 48), type := 37, pos := "load.go:37", after := #[⟨15, .data⟩, ⟨12, .guard⟩], guard := some (12, false) }) (v := ?vrav17) rfl (by kernel_rfl) (by kernel_rfl) (by kernel_rfl) (fun _ _ _ h => h) (Or.inl ⟨by rfl, ?rrav17⟩) (by assumption) ?_
          case rrav17 => (intro w hSw; (try dsimp only at hSw); (go_simp <;> with_reducible rfl))
          try simp only [Act.put, List.setIfInBounds_toArray, List.set_cons_zero, List.set_cons_succ]
          refine wpAnyH_take (i := 17) (oi := { dst := some 50, op := Go.Op.load 42 (Go.Operand.tmp 3), type := 42, pos := "load.go:37", after := #[⟨12, .guard⟩], guard := some (12, false) }) (v := ?vrav18) rfl (by kernel_rfl) (by kernel_rfl) (by kernel_rfl) (fun _ _ _ h => h) (Or.inl ⟨by rfl, ?rrav18⟩) (by assumption) ?_
          case rrav18 => (intro w hSw; (try dsimp only at hSw); (go_simp <;> with_reducible rfl))
          try simp only [Act.put, List.setIfInBounds_toArray, List.set_cons_zero, List.set_cons_succ]
          refine wpAnyH_take (i := 18) (oi := { dst := some 51, op := Go.Op.makeFunc (Go.Fn.func 58) #[Go.Operand.tmp 50] #[], type := 84, pos := "load.go:37", after := #[⟨17, .data⟩, ⟨12, .guard⟩], guard := some (12, false) }) (v := ?vrav19) rfl (by kernel_rfl) (by kernel_rfl) (by kernel_rfl) (fun _ _ _ h => h) (Or.inl ⟨by rfl, ?rrav19⟩) (by assumption) ?_
          case rrav19 => (intro w hSw; (try dsimp only at hSw); (go_simp <;> with_reducible rfl))
          try simp only [Act.put, List.setIfInBounds_toArray, List.set_cons_zero, List.set_cons_succ]
          refine wpAnyH_ready (rs := [19]) (by kernel_rfl) (by simp) ?_
          refine AllReadyH.cons (o := { dst := some 52, op := Go.Op.call { callee := Go.Callee.value (Go.Operand.func 57), args := #[Go.Operand.tmp 49, Go.Operand.tmp 51], argTypes := #[37, 84] }, type := 4, pos := "load.go:37", after := #[⟨16, .data⟩, ⟨18, .data⟩, ⟨12, .chain⟩, ⟨12, .guard⟩], guard := some (12, false) }) rfl (fun K hK => ?_) AllReadyH.nil
          go_simp
          go_at_call 57
          refine (HA1.out _ (HGW.out.trans h0.1)).mono ?_
          rintro e w9 ⟨rfl, hgN⟩
          first | refine hK.out _ _ ?srav20 (fun h20 => ?_) | (go_wp2_with fail; refine hK.out _ _ ?srav20 (fun h20 => ?_))
          case srav20 => ((try dsimp only); (exact HX4.out _ _ hgN h0))
          clear hK K h0
          try simp only [Act.put, List.setIfInBounds_toArray, List.set_cons_zero, List.set_cons_succ]
          refine wpAnyH_take (i := 20) (oi := { dst := some 53, op := Go.Op.pick (Go.Operand.tmp 45) (Go.Operand.const (Go.Value.bool true)) (Go.Operand.tmp 52), type := 4, pos := "load.go:37", after := #[⟨12, .data⟩, ⟨19, .data⟩], guard := none }) (v := ?vrav21) rfl (by kernel_rfl) (by kernel_rfl) (by kernel_rfl) (fun _ _ _ h => h) (Or.inl ⟨by rfl, ?rrav21⟩) (by assumption) ?_
          case rrav21 => (intro w hSw; (try dsimp only at hSw); (go_simp <;> with_reducible rfl))
          try simp only [Act.put, List.setIfInBounds_toArray, List.set_cons_zero, List.set_cons_succ]
          refine wpAnyH_done (by kernel_rfl) ?_ _
          have hz := h20.1
          obtain ⟨c0, c2, x0, x1, x2, x3⟩ := h20.2
          cases q1
          · rw [Bool.not_false, Bool.true_and] at HEQ
            go_upto_region 6 with fail
            go_wp2_with fail
            refine wp_region_held_drew (S := (fun w9 => Gr w2 w9 ∧ w9.cell? ⟨b, 0, none⟩ = some (.slice a1 0 k1) ∧ w9.cell? ⟨b, 2, none⟩ = some (.int .u64 la) ∧ w9.cell? ⟨w.heap.size, 0, none⟩ = some (.int .i64 xs) ∧ w9.cell? ⟨w.heap.size, 1, none⟩ = some (.string xt) ∧ w9.cell? ⟨w.heap.size, 2, none⟩ = some (.bool xe) ∧ w9.cell? ⟨w.heap.size, 3, none⟩ = some (.int .u64 xk))) (by kernel_rfl) ?invray (fun h0 => ?_)
            case invray => ((try dsimp only); (exact HX4.out _ _ ((Gr.refl _).drew) ⟨hz, c0, c2, x0, x1, x2, x3⟩))
            refine wpAnyH_take (i := 0) (oi := { dst := some 54, op := Go.Op.move (Go.Operand.tmp 0), type := 25, pos := "load.go:40", after := #[], guard := none }) (v := ?vray1) rfl (by kernel_rfl) (by kernel_rfl) (by kernel_rfl) (fun _ _ _ h => h) (Or.inl ⟨by rfl, ?rray1⟩) (by assumption) ?_
            case rray1 => (intro w hSw; (try dsimp only at hSw); (go_simp <;> with_reducible rfl))
            try simp only [Act.put, List.setIfInBounds_toArray, List.set_cons_zero, List.set_cons_succ]
            refine wpAnyH_take (i := 1) (oi := { dst := some 55, op := Go.Op.nilCheck (Go.Operand.tmp 54), type := 0, pos := "load.go:40", after := #[⟨0, .data⟩], guard := none }) (v := ?vray2) rfl (by kernel_rfl) (by kernel_rfl) (by kernel_rfl) (fun _ _ _ h => h) (Or.inl ⟨by rfl, ?rray2⟩) (by assumption) ?_
            case rray2 => (intro w hSw; (try dsimp only at hSw); (go_simp <;> with_reducible rfl))
            try simp only [Act.put, List.setIfInBounds_toArray, List.set_cons_zero, List.set_cons_succ]
            refine wpAnyH_take (i := 2) (oi := { dst := some 56, op := Go.Op.fieldAddr 69 (Go.Operand.tmp 55) 0, type := 0, pos := "load.go:40", after := #[⟨1, .data⟩], guard := none }) (v := ?vray3) rfl (by kernel_rfl) (by kernel_rfl) (by kernel_rfl) (fun _ _ _ h => h) (Or.inl ⟨by rfl, ?rray3⟩) (by assumption) ?_
            case rray3 => (intro w hSw; (try dsimp only at hSw); (go_simp <;> with_reducible rfl))
            try simp only [Act.put, List.setIfInBounds_toArray, List.set_cons_zero, List.set_cons_succ]
            refine wpAnyH_take (i := 3) (oi := { dst := some 57, op := Go.Op.load 37 (Go.Operand.tmp 56), type := 37, pos := "load.go:40", after := #[⟨2, .data⟩], guard := none }) (v := ?vray4) rfl (by kernel_rfl) (by kernel_rfl) (by kernel_rfl) (fun _ _ _ h => h) (Or.inl ⟨by rfl, ?rray4⟩) (by assumption) ?_
            case rray4 => (intro w hSw; (try dsimp only at hSw); (go_simp <;> with_reducible rfl))
            try simp only [Act.put, List.setIfInBounds_toArray, List.set_cons_zero, List.set_cons_succ]
            refine wpAnyH_take (i := 4) (oi := { dst := some 58, op := Go.Op.load 42 (Go.Operand.tmp 3), type := 42, pos := "load.go:40", after := #[], guard := none }) (v := ?vray5) rfl (by kernel_rfl) (by kernel_rfl) (by kernel_rfl) (fun _ _ _ h => h) (Or.inl ⟨by rfl, ?rray5⟩) (by assumption) ?_
            case rray5 => (intro w hSw; (try dsimp only at hSw); (go_simp <;> with_reducible rfl))
            try simp only [Act.put, List.setIfInBounds_toArray, List.set_cons_zero, List.set_cons_succ]
            refine wpAnyH_take (i := 5) (oi := { dst := some 59, op := Go.Op.makeFunc (Go.Fn.func 59) #[Go.Operand.tmp 58] #[], type := 84, pos := "load.go:40", after := #[⟨4, .data⟩], guard := none }) (v := ?vray6) rfl (by kernel_rfl) (by kernel_rfl) (by kernel_rfl) (fun _ _ _ h => h) (Or.inl ⟨by rfl, ?rray6⟩) (by assumption) ?_
            case rray6 => (intro w hSw; (try dsimp only at hSw); (go_simp <;> with_reducible rfl))
            try simp only [Act.put, List.setIfInBounds_toArray, List.set_cons_zero, List.set_cons_succ]
            refine wpAnyH_ready (rs := [6]) (by kernel_rfl) (by simp) ?_
            refine AllReadyH.cons (o := { dst := some 60, op := Go.Op.call { callee := Go.Callee.value (Go.Operand.func 57), args := #[Go.Operand.tmp 57, Go.Operand.tmp 59], argTypes := #[37, 84] }, type := 4, pos := "load.go:40", after := #[⟨3, .data⟩, ⟨5, .data⟩], guard := none }) rfl (fun K hK => ?_) AllReadyH.nil
            go_simp
            go_at_call 57
            refine (HA2.out _ (HGW.out.trans h0.1)).mono ?_
            rintro e w9 ⟨rfl, hgN⟩
            first | refine hK.out _ _ ?sray7 (fun h7 => ?_) | (go_wp2_with fail; refine hK.out _ _ ?sray7 (fun h7 => ?_))
            case sray7 => ((try dsimp only); (exact HX4.out _ _ hgN h0))
            clear hK K h0
            try simp only [Act.put, List.setIfInBounds_toArray, List.set_cons_zero, List.set_cons_succ]
            refine wpAnyH_take (i := 7) (oi := { dst := some 61, op := Go.Op.unOp Go.UnOp.not 4 (Go.Operand.tmp 60), type := 4, pos := "load.go:40", after := #[⟨6, .data⟩], guard := none }) (v := ?vray8) rfl (by kernel_rfl) (by kernel_rfl) (by kernel_rfl) (fun _ _ _ h => h) (Or.inl ⟨by rfl, ?rray8⟩) (by assumption) ?_
            case rray8 => (intro w hSw; (try dsimp only at hSw); (go_simp <;> with_reducible rfl))
            try simp only [Act.put, List.setIfInBounds_toArray, List.set_cons_zero, List.set_cons_succ]
            refine wpAnyH_take (i := 8) (oi := { dst := some 4, op := Go.Op.assign (Go.Operand.tmp 61), type := 4, pos := "load.go:40", after := #[⟨7, .data⟩, ⟨6, .chain⟩, ⟨0, .phase⟩, ⟨1, .phase⟩, ⟨2, .phase⟩, ⟨3, .phase⟩, ⟨4, .phase⟩, ⟨5, .phase⟩, ⟨6, .phase⟩, ⟨7, .phase⟩], guard := none }) (v := ?vray9) rfl (by kernel_rfl) (by kernel_rfl) (by kernel_rfl) (fun _ _ _ h => h) (Or.inl ⟨by rfl, ?rray9⟩) (by assumption) ?_
            case rray9 => (intro w hSw; (try dsimp only at hSw); (go_simp <;> with_reducible rfl))
            try simp only [Act.put, List.setIfInBounds_toArray, List.set_cons_zero, List.set_cons_succ]
            refine wpAnyH_done (by kernel_rfl) ?_ _
            have HG4 := Lib.hid (HGW.out.trans h7.1)
            clear h7
            go_wp2
            go_ret
            exact ⟨by rw [HEQ.out]; simp, HG4.out⟩
          · rw [Bool.not_true, Bool.false_and] at HEQ
            have HG4 := Lib.hid (HGW.out.trans hz)
            clear hz c0 c2 x0 x1 x2 x3
            go_wp2
            go_ret
            exact ⟨(by rw [HEQ.out]; try rfl), HG4.out⟩
  · obtain ⟨j, hj⟩ : ∃ j, B.H.length = j + 1 := ⟨B.H.length - 1, by omega⟩
    have hjl : j < B.H.length := by omega
    obtain ⟨g, cap, hv, p0, p1, p2, p3⟩ := HLA.out j hjl
    simp only [Value.slice.injEq, true_and] at hv
    obtain ⟨rfl, rfl⟩ := hv
    have HCX := Lib.hid (HCM.out j hjl)
    have hat : afterB B.H ⟨xs, xt, xe, xk⟩ = decide (cmpK B.H[j] ⟨xs, xt, xe, xk⟩ < 0) := by
      unfold afterB
      have e1 : decide (B.H.length = 0) = false := decide_eq_false (by omega)
      rw [e1, Bool.false_or, show B.H.length - 1 = j by omega, List.getD_eq_getElem?_getD, List.getElem?_eq_getElem hjl]
      rfl
    rw [hat] at HEQ
    clear HLA HCM hat hn
    generalize B.H[j] = pv at *
    generalize cmpK pv ⟨xs, xt, xe, xk⟩ = cc at *
    have HGP := Lib.hid (And.intro (HGW.out.cell p0) (And.intro (HGW.out.cell p1) (And.intro (HGW.out.cell p2) (HGW.out.cell p3))))
    generalize B.H.length = n1 at *
    subst hj
    clear p0 p1 p2 p3
    have hjj : (j : Int) < (j : Int) + 1 := by omega
    have hwj : IntKind.i64.wrap (j : Int) = (j : Int) := IntWalk.i64_in _ (by omega)
    have hgt : decide (0 < ((j : Int) + 1)) = true := decide_eq_true (by omega)
    go_enter Tryz.func35, Tryz.ntmps35
    go_upto_region 1 with fail
    generalize (w.alloc (.cells #[.int .i64 xs, .string xt, .bool xe, .int .u64 xk] 42)) = w2 at *
    obtain ⟨p0, p1, p2, p3⟩ := HGP.out
    clear HGP
    go_upto_region 2 with fail
    by_cases hc : cc < 0
    · have hcd : decide (0 ≤ cc) = false := decide_eq_false (by omega)
      rw [decide_eq_true hc, Bool.true_and] at HEQ
      clear hc
      go_wp2_with fail
      have HX : Hid (∀ w0 w9 : World, Gr w0 w9 → (fun w9 => Gr w2 w9 ∧ w9.cell? ⟨b, 0, none⟩ = some (.slice (some ⟨g, 0, none⟩) (j + 1) k1) ∧ w9.cell? ⟨b, 2, none⟩ = some (.int .u64 la) ∧ w9.cell? ⟨w.heap.size, 0, none⟩ = some (.int .i64 xs) ∧ w9.cell? ⟨w.heap.size, 1, none⟩ = some (.string xt) ∧ w9.cell? ⟨w.heap.size, 2, none⟩ = some (.bool xe) ∧ w9.cell? ⟨w.heap.size, 3, none⟩ = some (.int .u64 xk) ∧ w9.cell? ⟨g, j * 4, none⟩ = some (.int .i64 pv.ses) ∧ w9.cell? ⟨g, j * 4 + 1, none⟩ = some (.string pv.txt) ∧ w9.cell? ⟨g, j * 4 + 2, none⟩ = some (.bool pv.ex) ∧ w9.cell? ⟨g, j * 4 + 3, none⟩ = some (.int .u64 pv.tok)) w0 → (fun w9 => Gr w2 w9 ∧ w9.cell? ⟨b, 0, none⟩ = some (.slice (some ⟨g, 0, none⟩) (j + 1) k1) ∧ w9.cell? ⟨b, 2, none⟩ = some (.int .u64 la) ∧ w9.cell? ⟨w.heap.size, 0, none⟩ = some (.int .i64 xs) ∧ w9.cell? ⟨w.heap.size, 1, none⟩ = some (.string xt) ∧ w9.cell? ⟨w.heap.size, 2, none⟩ = some (.bool xe) ∧ w9.cell? ⟨w.heap.size, 3, none⟩ = some (.int .u64 xk) ∧ w9.cell? ⟨g, j * 4, none⟩ = some (.int .i64 pv.ses) ∧ w9.cell? ⟨g, j * 4 + 1, none⟩ = some (.string pv.txt) ∧ w9.cell? ⟨g, j * 4 + 2, none⟩ = some (.bool pv.ex) ∧ w9.cell? ⟨g, j * 4 + 3, none⟩ = some (.int .u64 pv.tok)) w9) := Lib.hid fun w0 w9 hg ⟨h, q0, q1, q2, q3, q4, q5, q6, q7, q8, q9⟩ => ⟨h.trans hg, hg.cell q0, hg.cell q1, hg.cell q2, hg.cell q3, hg.cell q4, hg.cell q5, hg.cell q6, hg.cell q7, hg.cell q8, hg.cell q9⟩
      refine wp_region_held_drew (S := (fun w9 => Gr w2 w9 ∧ w9.cell? ⟨b, 0, none⟩ = some (.slice (some ⟨g, 0, none⟩) (j + 1) k1) ∧ w9.cell? ⟨b, 2, none⟩ = some (.int .u64 la) ∧ w9.cell? ⟨w.heap.size, 0, none⟩ = some (.int .i64 xs) ∧ w9.cell? ⟨w.heap.size, 1, none⟩ = some (.string xt) ∧ w9.cell? ⟨w.heap.size, 2, none⟩ = some (.bool xe) ∧ w9.cell? ⟨w.heap.size, 3, none⟩ = some (.int .u64 xk) ∧ w9.cell? ⟨g, j * 4, none⟩ = some (.int .i64 pv.ses) ∧ w9.cell? ⟨g, j * 4 + 1, none⟩ = some (.string pv.txt) ∧ w9.cell? ⟨g, j * 4 + 2, none⟩ = some (.bool pv.ex) ∧ w9.cell? ⟨g, j * 4 + 3, none⟩ = some (.int .u64 pv.tok))) (by kernel_rfl) ?invc (fun h0 => ?_)
      case invc => ((try dsimp only); (exact HX.out _ _ ((Gr.refl _).drew) ⟨Gr.refl _, c0, c2, x0, x1, x2, x3, p0, p1, p2, p3⟩))
      refine wpAnyH_take (i := 0) (oi := { dst := some 11, op := Go.Op.move (Go.Operand.tmp 5), type := 3, pos := "load.go:34", after := #[], guard := none }) (v := ?vc1) rfl (by kernel_rfl) (by kernel_rfl) (by kernel_rfl) (fun _ _ _ h => h) (Or.inl ⟨by rfl, ?rc1⟩) (by assumption) ?_
      case rc1 => (intro w hSw; (try dsimp only at hSw); (go_simp <;> with_reducible rfl))
      try simp only [Act.put, List.setIfInBounds_toArray, List.set_cons_zero, List.set_cons_succ]
      refine wpAnyH_take (i := 1) (oi := { dst := some 12, op := Go.Op.binOp Go.BinOp.gtr 3 (Go.Operand.tmp 11) (Go.Operand.const (Go.Value.int Go.IntKind.i64 0)) 3, type := 4, pos := "load.go:34", after := #[⟨0, .data⟩], guard := none }) (v := ?vc2) rfl (by kernel_rfl) (by kernel_rfl) (by kernel_rfl) (fun _ _ _ h => h) (Or.inl ⟨by rfl, ?rc2⟩) (by assumption) ?_
      case rc2 => (intro w hSw; (try dsimp only at hSw); (go_simp <;> with_reducible rfl))
      try simp only [Act.put, List.setIfInBounds_toArray, List.set_cons_zero, List.set_cons_succ]
      refine wpAnyH_take (i := 2) (oi := { dst := some 13, op := Go.Op.move (Go.Operand.tmp 12), type := 4, pos := "load.go:34", after := #[⟨1, .data⟩], guard := none }) (v := ?vc3) rfl (by kernel_rfl) (by kernel_rfl) (by kernel_rfl) (fun _ _ _ h => h) (Or.inl ⟨by rfl, ?rc3⟩) (by assumption) ?_
      case rc3 => (intro w hSw; (try dsimp only at hSw); (go_simp <;> with_reducible rfl))
      try simp only [Act.put, List.setIfInBounds_toArray, List.set_cons_zero, List.set_cons_succ]
      refine wpAnyH_take (i := 3) (oi := { dst := some 14, op := Go.Op.move (Go.Operand.tmp 0), type := 25, pos := "load.go:34", after := #[⟨2, .guard⟩], guard := some (2, true) }) (v := ?vc4) rfl (by kernel_rfl) (by kernel_rfl) (by kernel_rfl) (fun _ _ _ h => h) (Or.inl ⟨by rfl, ?rc4⟩) (by assumption) ?_
      case rc4 => (intro w hSw; (try dsimp only at hSw); (go_simp <;> with_reducible rfl))
      try simp only [Act.put, List.setIfInBounds_toArray, List.set_cons_zero, List.set_cons_succ]
      refine wpAnyH_take (i := 4) (oi := { dst := some 15, op := Go.Op.nilCheck (Go.Operand.tmp 14), type := 0, pos := "load.go:34", after := #[⟨3, .data⟩, ⟨2, .guard⟩], guard := some (2, true) }) (v := ?vc5) rfl (by kernel_rfl) (by kernel_rfl) (by kernel_rfl) (fun _ _ _ h => h) (Or.inl ⟨by rfl, ?rc5⟩) (by assumption) ?_
      case rc5 => (intro w hSw; (try dsimp only at hSw); (go_simp <;> with_reducible rfl))
      try simp only [Act.put, List.setIfInBounds_toArray, List.set_cons_zero, List.set_cons_succ]
      refine wpAnyH_take (i := 5) (oi := { dst := some 16, op := Go.Op.fieldAddr 69 (Go.Operand.tmp 15) 0, type := 0, pos := "load.go:34", after := #[⟨4, .data⟩, ⟨2, .guard⟩], guard := some (2, true) }) (v := ?vc6) rfl (by kernel_rfl) (by kernel_rfl) (by kernel_rfl) (fun _ _ _ h => h) (Or.inl ⟨by rfl, ?rc6⟩) (by assumption) ?_
      case rc6 => (intro w hSw; (try dsimp only at hSw); (go_simp <;> with_reducible rfl))
      try simp only [Act.put, List.setIfInBounds_toArray, List.set_cons_zero, List.set_cons_succ]
      refine wpAnyH_take (i := 6) (oi := { dst := some 17, op := Go.Op.load 37 (Go.Operand.tmp 16), type := 37, pos := "load.go:34", after := #[⟨5, .data⟩, ⟨2, .guard⟩], guard := some (2, true) }) (v := ?vc7) rfl (by kernel_rfl) (by kernel_rfl) (by kernel_rfl) (fun _ _ _ h => h) (Or.inl ⟨by rfl, ?rc7⟩) (by assumption) ?_
      case rc7 => (intro w hSw; (try dsimp only at hSw); (go_simp <;> with_reducible rfl))
      try simp only [Act.put, List.setIfInBounds_toArray, List.set_cons_zero, List.set_cons_succ]
      refine wpAnyH_take (i := 7) (oi := { dst := some 18, op := Go.Op.move (Go.Operand.tmp 5), type := 3, pos := "load.go:34", after := #[⟨2, .guard⟩], guard := some (2, true) }) (v := ?vc8) rfl (by kernel_rfl) (by kernel_rfl) (by kernel_rfl) (fun _ _ _ h => h) (Or.inl ⟨by rfl, ?rc8⟩) (by assumption) ?_
      case rc8 => (intro w hSw; (try dsimp only at hSw); (go_simp <;> with_reducible rfl))
      try simp only [Act.put, List.setIfInBounds_toArray, List.set_cons_zero, List.set_cons_succ]
      refine wpAnyH_take (i := 8) (oi := { dst := some 19, op := Go.Op.binOp Go.BinOp.sub 3 (Go.Operand.tmp 18) (Go.Operand.const (Go.Value.int Go.IntKind.i64 1)) 3, type := 3, pos := "load.go:34", after := #[⟨7, .data⟩, ⟨2, .guard⟩], guard := some (2, true) }) (v := ?vc9) rfl (by kernel_rfl) (by kernel_rfl) (by kernel_rfl) (fun _ _ _ h => h) (Or.inl ⟨by rfl, ?rc9⟩) (by assumption) ?_
      case rc9 => (intro w hSw; (try dsimp only at hSw); (go_simp <;> with_reducible rfl))
      try simp only [Act.put, List.setIfInBounds_toArray, List.set_cons_zero, List.set_cons_succ]
      refine wpAnyH_take (i := 9) (oi := { dst := some 20, op := Go.Op.indexAddr 37 (Go.Operand.tmp 17) (Go.Operand.tmp 19), type := 0, pos := "load.go:34", after := #[⟨6, .data⟩, ⟨8, .data⟩, ⟨2, .guard⟩], guard := some (2, true) }) (v := ?vc10) rfl (by kernel_rfl) (by kernel_rfl) (by kernel_rfl) (fun _ _ _ h => h) (Or.inl ⟨by rfl, ?rc10⟩) (by assumption) ?_
      case rc10 => (intro w hSw; (try dsimp only at hSw); (go_simp <;> with_reducible rfl))
      try simp only [Act.put, List.setIfInBounds_toArray, List.set_cons_zero, List.set_cons_succ]
      refine wpAnyH_take (i := 10) (oi := { dst := some 21, op := Go.Op.load 42 (Go.Operand.tmp 20), type := 42, pos := "load.go:34", after := #[⟨9, .data⟩, ⟨2, .guard⟩], guard := some (2, true) }) (v := ?vc11) rfl (by kernel_rfl) (by kernel_rfl) (by kernel_rfl) (fun _ _ _ h => h) (Or.inl ⟨by rfl, ?rc11⟩) (by assumption) ?_
      case rc11 => (intro w hSw; (try dsimp only at hSw); (go_simp <;> with_reducible rfl))
      try simp only [Act.put, List.setIfInBounds_toArray, List.set_cons_zero, List.set_cons_succ]
      refine wpAnyH_take (i := 11) (oi := { dst := some 22, op := Go.Op.load 42 (Go.Operand.tmp 3), type := 42, pos := "load.go:34", after := #[⟨2, .guard⟩], guard := some (2, true) }) (v := ?vc12) rfl (by kernel_rfl) (by kernel_rfl) (by kernel_rfl) (fun _ _ _ h => h) (Or.inl ⟨by rfl, ?rc12⟩) (by assumption) ?_
      case rc12 => (intro w hSw; (try dsimp only at hSw); (go_simp <;> with_reducible rfl))
      try simp only [Act.put, List.setIfInBounds_toArray, List.set_cons_zero, List.set_cons_succ]
      refine wpAnyH_ready (rs := [12]) (by kernel_rfl) (by simp) ?_
      refine AllReadyH.cons (o := { dst := some 23, op := Go.Op.call { callee := Go.Callee.value (Go.Operand.func 55), args := #[Go.Operand.tmp 21, Go.Operand.tmp 22], argTypes := #[42, 42] }, type := 3, pos := "load.go:34", after := #[⟨10, .data⟩, ⟨11, .data⟩, ⟨2, .chain⟩, ⟨2, .guard⟩], guard := some (2, true) }) rfl (fun K hK => ?_) AllReadyH.nil
      go_simp
      go_at_call 55
      refine (HCX.out _ (HGW.out.trans h0.1)).mono ?_
      rintro e w9 ⟨rfl, hgN⟩
      first | refine hK.out _ _ ?sc13 (fun h13 => ?_) | (go_wp2_with fail; refine hK.out _ _ ?sc13 (fun h13 => ?_))
      case sc13 => ((try dsimp only); (exact HX.out _ _ hgN h0))
      clear hK K h0
      try simp only [Act.put, List.setIfInBounds_toArray, List.set_cons_zero, List.set_cons_succ]
      refine wpAnyH_take (i := 13) (oi := { dst := some 24, op := Go.Op.binOp Go.BinOp.geq 3 (Go.Operand.tmp 23) (Go.Operand.const (Go.Value.int Go.IntKind.i64 0)) 3, type := 4, pos := "load.go:34", after := #[⟨12, .data⟩, ⟨2, .guard⟩], guard := some (2, true) }) (v := ?vc14) rfl (by kernel_rfl) (by kernel_rfl) (by kernel_rfl) (fun _ _ _ h => h) (Or.inl ⟨by rfl, ?rc14⟩) (by assumption) ?_
      case rc14 => (intro w hSw; (try dsimp only at hSw); (go_simp <;> with_reducible rfl))
      try simp only [Act.put, List.setIfInBounds_toArray, List.set_cons_zero, List.set_cons_succ]
      refine wpAnyH_take (i := 14) (oi := { dst := some 25, op := Go.Op.pick (Go.Operand.tmp 13) (Go.Operand.tmp 24) (Go.Operand.const (Go.Value.bool false)), type := 4, pos := "load.go:34", after := #[⟨2, .data⟩, ⟨13, .data⟩], guard := none }) (v := ?vc15) rfl (by kernel_rfl) (by kernel_rfl) (by kernel_rfl) (fun _ _ _ h => h) (Or.inl ⟨by rfl, ?rc15⟩) (by assumption) ?_
      case rc15 => (intro w hSw; (try dsimp only at hSw); (go_simp <;> with_reducible rfl))
      try simp only [Act.put, List.setIfInBounds_toArray, List.set_cons_zero, List.set_cons_succ]
      refine wpAnyH_take (i := 15) (oi := { dst := some 26, op := Go.Op.move (Go.Operand.tmp 25), type := 4, pos := "load.go:34", after := #[⟨14, .data⟩, ⟨12, .chain⟩], guard := none }) (v := ?vc16) rfl (by kernel_rfl) (by kernel_rfl) (by kernel_rfl) (fun _ _ _ h => h) (Or.inl ⟨by rfl, ?rc16⟩) (by assumption) ?_
      case rc16 => (intro w hSw; (try dsimp only at hSw); (go_simp <;> with_reducible rfl))
      try simp only [Act.put, List.setIfInBounds_toArray, List.set_cons_zero, List.set_cons_succ]
      refine wpAnyH_take (i := 16) (oi := { dst := some 27, op := Go.Op.move (Go.Operand.tmp 0), type := 25, pos := "load.go:34", after := #[⟨15, .guard⟩], guard := some (15, false) }) (v := ?vc17) rfl (by kernel_rfl) (by kernel_rfl) (by kernel_rfl) (fun _ _ _ h => h) (Or.inl ⟨by rfl, ?rc17⟩) (by assumption) ?_
      case rc17 => (intro w hSw; (try dsimp only at hSw); (go_simp <;> with_reducible rfl))
      try simp only [Act.put, List.setIfInBounds_toArray, List.set_cons_zero, List.set_cons_succ]
      refine wpAnyH_take (i := 17) (oi := { dst := some 28, op := Go.Op.fieldAddr 42 (Go.Operand.tmp 3) 0, type := 0, pos := "load.go:34", after := #[⟨15, .guard⟩], guard := some (15, false) }) (v := ?vc18) rfl (by kernel_rfl) (by kernel_rfl) (by kernel_rfl) (fun _ _ _ h => h) (Or.inl ⟨by rfl, ?rc18⟩) (by assumption) ?_
      case rc18 => (intro w hSw; (try dsimp only at hSw); (go_simp <;> with_reducible rfl))
      try simp only [Act.put, List.setIfInBounds_toArray, List.set_cons_zero, List.set_cons_succ]
      refine wpAnyH_take (i := 18) (oi := { dst := some 29, op := Go.Op.load 3 (Go.Operand.tmp 28), type := 3, pos := "load.go:34", after := #[⟨17, .data⟩, ⟨15, .guard⟩], guard := some (15, false) }) (v := ?vc19) rfl (by kernel_rfl) (by kernel_rfl) (by kernel_rfl) (fun _ _ _ h => h) (Or.inl ⟨by rfl, ?rc19⟩) (by assumption) ?_
      case rc19 => (intro w hSw; (try dsimp only at hSw); (go_simp <;> with_reducible rfl))
      try simp only [Act.put, List.setIfInBounds_toArray, List.set_cons_zero, List.set_cons_succ]
      refine wpAnyH_ready (rs := [19]) (by kernel_rfl) (by simp) ?_
      refine AllReadyH.cons (o := { dst := some 30, op := Go.Op.call { callee := Go.Callee.value (Go.Operand.func 56), args := #[Go.Operand.tmp 27, Go.Operand.tmp 29], argTypes := #[25, 3] }, type := 4, pos := "load.go:34", after := #[⟨16, .data⟩, ⟨18, .data⟩, ⟨15, .chain⟩, ⟨15, .guard⟩], guard := some (15, false) }) rfl (fun K hK => ?_) AllReadyH.nil
      go_simp
      go_at_call 56
      refine (HRM.out _ (HGW.out.trans h13.1)).mono ?_
      rintro e w9 ⟨rfl, hgN⟩
      first | refine hK.out _ _ ?sc20 (fun h20 => ?_) | (go_wp2_with fail; refine hK.out _ _ ?sc20 (fun h20 => ?_))
      case sc20 => ((try dsimp only); (exact HX.out _ _ hgN h13))
      clear hK K h13
      try simp only [Act.put, List.setIfInBounds_toArray, List.set_cons_zero, List.set_cons_succ]
      refine wpAnyH_take (i := 20) (oi := { dst := some 31, op := Go.Op.unOp Go.UnOp.not 4 (Go.Operand.tmp 30), type := 4, pos := "load.go:34", after := #[⟨19, .data⟩, ⟨15, .guard⟩], guard := some (15, false) }) (v := ?vc21) rfl (by kernel_rfl) (by kernel_rfl) (by kernel_rfl) (fun _ _ _ h => h) (Or.inl ⟨by rfl, ?rc21⟩) (by assumption) ?_
      case rc21 => (intro w hSw; (try dsimp only at hSw); (go_simp <;> with_reducible rfl))
      try simp only [Act.put, List.setIfInBounds_toArray, List.set_cons_zero, List.set_cons_succ]
      refine wpAnyH_take (i := 21) (oi := { dst := some 32, op := Go.Op.pick (Go.Operand.tmp 26) (Go.Operand.const (Go.Value.bool true)) (Go.Operand.tmp 31), type := 4, pos := "load.go:34", after := #[⟨15, .data⟩, ⟨20, .data⟩], guard := none }) (v := ?vc22) rfl (by kernel_rfl) (by kernel_rfl) (by kernel_rfl) (fun _ _ _ h => h) (Or.inl ⟨by rfl, ?rc22⟩) (by assumption) ?_
      case rc22 => (intro w hSw; (try dsimp only at hSw); (go_simp <;> with_reducible rfl))
      try simp only [Act.put, List.setIfInBounds_toArray, List.set_cons_zero, List.set_cons_succ]
      refine wpAnyH_done (by kernel_rfl) ?_ _
      cases rm
      · rw [Bool.false_and, Bool.false_and, Bool.false_and] at HEQ
        have HG3 := Lib.hid (HGW.out.trans h20.1)
        clear h20 c0 c2 x0 x1 x2 x3
        go_wp2
        go_ret
        exact ⟨by rw [HEQ.out]; rfl, HG3.out⟩
      · rw [Bool.true_and] at HEQ
        have hz := h20.1
        have c0 := h20.2.1
        have c2 := h20.2.2.1
        have x0 := h20.2.2.2.1
        have x1 := h20.2.2.2.2.1
        have x2 := h20.2.2.2.2.2.1
        have x3 := h20.2.2.2.2.2.2.1
        clear h20 HRM HX
        have HX4 : Hid (∀ w0 w9 : World, Gr w0 w9 → (fun w9 => Gr w2 w9 ∧ w9.cell? ⟨b, 0, none⟩ = some (.slice (some ⟨g, 0, none⟩) (j + 1) k1) ∧ w9.cell? ⟨b, 2, none⟩ = some (.int .u64 la) ∧ w9.cell? ⟨w.heap.size, 0, none⟩ = some (.int .i64 xs) ∧ w9.cell? ⟨w.heap.size, 1, none⟩ = some (.string xt) ∧ w9.cell? ⟨w.heap.size, 2, none⟩ = some (.bool xe) ∧ w9.cell? ⟨w.heap.size, 3, none⟩ = some (.int .u64 xk)) w0 → (fun w9 => Gr w2 w9 ∧ w9.cell? ⟨b, 0, none⟩ = some (.slice (some ⟨g, 0, none⟩) (j + 1) k1) ∧ w9.cell? ⟨b, 2, none⟩ = some (.int .u64 la) ∧ w9.cell? ⟨w.heap.size, 0, none⟩ = some (.int .i64 xs) ∧ w9.cell? ⟨w.heap.size, 1, none⟩ = some (.string xt) ∧ w9.cell? ⟨w.heap.size, 2, none⟩ = some (.bool xe) ∧ w9.cell? ⟨w.heap.size, 3, none⟩ = some (.int .u64 xk)) w9) := Lib.hid fun w0 w9 hg ⟨h, q0, q1, q2, q3, q4, q5⟩ => ⟨h.trans hg, hg.cell q0, hg.cell q1, hg.cell q2, hg.cell q3, hg.cell q4, hg.cell q5⟩
        go_upto_region 4 with fail
        by_cases t0 : xk = 0
        · have e0 : (xk == 0) = true := by simpa using t0
          have hrf : r = false := by rw [HEQ.out, decide_eq_false (p := xk ≠ 0) (fun h => h t0)]; simp
          have HEQ := Lib.hid hrf
          clear t0 hrf
          go_wp2_with fail
          refine wp_region_held_drew (S := (fun w9 => Gr w2 w9 ∧ w9.cell? ⟨b, 0, none⟩ = some (.slice (some ⟨g, 0, none⟩) (j + 1) k1) ∧ w9.cell? ⟨b, 2, none⟩ = some (.int .u64 la) ∧ w9.cell? ⟨w.heap.size, 0, none⟩ = some (.int .i64 xs) ∧ w9.cell? ⟨w.heap.size, 1, none⟩ = some (.string xt) ∧ w9.cell? ⟨w.heap.size, 2, none⟩ = some (.bool xe) ∧ w9.cell? ⟨w.heap.size, 3, none⟩ = some (.int .u64 xk))) (by kernel_rfl) ?invrct (fun h0 => ?_)
          case invrct => ((try dsimp only); (exact HX4.out _ _ ((Gr.refl _).drew) ⟨hz, c0, c2, x0, x1, x2, x3⟩))
          refine wpAnyH_take (i := 0) (oi := { dst := some 33, op := Go.Op.fieldAddr 42 (Go.Operand.tmp 3) 3, type := 0, pos := "load.go:37", after := #[], guard := none }) (v := ?vrct1) rfl (by kernel_rfl) (by kernel_rfl) (by kernel_rfl) (fun _ _ _ h => h) (Or.inl ⟨by rfl, ?rrct1⟩) (by assumption) ?_
          case rrct1 => (intro w hSw; (try dsimp only at hSw); (go_simp <;> with_reducible rfl))
          try simp only [Act.put, List.setIfInBounds_toArray, List.set_cons_zero, List.set_cons_succ]
          refine wpAnyH_take (i := 1) (oi := { dst := some 34, op := Go.Op.load 22 (Go.Operand.tmp 33), type := 22, pos := "load.go:37", after := #[⟨0, .data⟩], guard := none }) (v := ?vrct2) rfl (by kernel_rfl) (by kernel_rfl) (by kernel_rfl) (fun _ _ _ h => h) (Or.inl ⟨by rfl, ?rrct2⟩) (by assumption) ?_
          case rrct2 => (intro w hSw; (try dsimp only at hSw); (go_simp <;> with_reducible rfl))
          try simp only [Act.put, List.setIfInBounds_toArray, List.set_cons_zero, List.set_cons_succ]
          refine wpAnyH_take (i := 2) (oi := { dst := some 35, op := Go.Op.binOp Go.BinOp.eql 22 (Go.Operand.tmp 34) (Go.Operand.const (Go.Value.int Go.IntKind.u64 0)) 22, type := 4, pos := "load.go:37", after := #[⟨1, .data⟩], guard := none }) (v := ?vrct3) rfl (by kernel_rfl) (by kernel_rfl) (by kernel_rfl) (fun _ _ _ h => h) (Or.inl ⟨by rfl, ?rrct3⟩) (by assumption) ?_
          case rrct3 => (intro w hSw; (try dsimp only at hSw); (go_simp <;> with_reducible rfl))
          try simp only [Act.put, List.setIfInBounds_toArray, List.set_cons_zero, List.set_cons_succ]
          refine wpAnyH_take (i := 3) (oi := { dst := some 36, op := Go.Op.move (Go.Operand.tmp 35), type := 4, pos := "load.go:37", after := #[⟨2, .data⟩], guard := none }) (v := ?vrct4) rfl (by kernel_rfl) (by kernel_rfl) (by kernel_rfl) (fun _ _ _ h => h) (Or.inl ⟨by rfl, ?rrct4⟩) (by assumption) ?_
          case rrct4 => (intro w hSw; (try dsimp only at hSw); (go_simp <;> with_reducible rfl))
          try simp only [Act.put, List.setIfInBounds_toArray, List.set_cons_zero, List.set_cons_succ]
          refine wpAnyH_take (i := 4) (oi := { dst := some 37, op := Go.Op.fieldAddr 42 (Go.Operand.tmp 3) 3, type := 0, pos := "load.go:37", after := #[⟨3, .guard⟩], guard := some (3, false) }) (v := undef) rfl (by kernel_rfl) (by kernel_rfl) (by kernel_rfl) (fun _ _ _ h => h) (Or.inr ⟨by rfl, rfl⟩) (by assumption) ?_
          try simp only [Act.put, List.setIfInBounds_toArray, List.set_cons_zero, List.set_cons_succ]
          refine wpAnyH_take (i := 5) (oi := { dst := some 38, op := Go.Op.load 22 (Go.Operand.tmp 37), type := 22, pos := "load.go:37", after := #[⟨4, .data⟩, ⟨3, .guard⟩], guard := some (3, false) }) (v := undef) rfl (by kernel_rfl) (by kernel_rfl) (by kernel_rfl) (fun _ _ _ h => h) (Or.inr ⟨by rfl, rfl⟩) (by assumption) ?_
          try simp only [Act.put, List.setIfInBounds_toArray, List.set_cons_zero, List.set_cons_succ]
          refine wpAnyH_take (i := 6) (oi := { dst := some 39, op := Go.Op.move (Go.Operand.tmp 0), type := 25, pos := "load.go:37", after := #[⟨3, .guard⟩], guard := some (3, false) }) (v := undef) rfl (by kernel_rfl) (by kernel_rfl) (by kernel_rfl) (fun _ _ _ h => h) (Or.inr ⟨by rfl, rfl⟩) (by assumption) ?_
          try simp only [Act.put, List.setIfInBounds_toArray, List.set_cons_zero, List.set_cons_succ]
          refine wpAnyH_take (i := 7) (oi := { dst := some 40, op := Go.Op.nilCheck (Go.Operand.tmp 39), type := 0, pos := "load.go:37", after := #[⟨6, .data⟩, ⟨3, .guard⟩], guard := some (3, false) }) (v := undef) rfl (by kernel_rfl) (by kernel_rfl) (by kernel_rfl) (fun _ _ _ h => h) (Or.inr ⟨by rfl, rfl⟩) (by assumption) ?_
          try simp only [Act.put, List.setIfInBounds_toArray, List.set_cons_zero, List.set_cons_succ]
          refine wpAnyH_take (i := 8) (oi := { dst := some 41, op := Go.Op.fieldAddr 69 (Go.Operand.tmp 40) 2, type := 0, pos := "load.go:37", after := #[⟨7, .data⟩, ⟨3, .guard⟩], guard := some (3, false) }) (v := undef) rfl (by kernel_rfl) (by kernel_rfl) (by kernel_rfl) (fun _ _ _ h => h) (Or.inr ⟨by rfl, rfl⟩) (by assumption) ?_
          try simp only [Act.put, List.setIfInBounds_toArray, List.set_cons_zero, List.set_cons_succ]
          refine wpAnyH_take (i := 9) (oi := { dst := some 42, op := Go.Op.load 22 (Go.Operand.tmp 41), type := 22, pos := "load.go:37", after := #[⟨8, .data⟩, ⟨3, .guard⟩], guard := some (3, false) }) (v := undef) rfl (by kernel_rfl) (by kernel_rfl) (by kernel_rfl) (fun _ _ _ h => h) (Or.inr ⟨by rfl, rfl⟩) (by assumption) ?_
          try simp only [Act.put, List.setIfInBounds_toArray, List.set_cons_zero, List.set_cons_succ]
          refine wpAnyH_take (i := 10) (oi := { dst := some 43, op := Go.Op.binOp Go.BinOp.gtr 22 (Go.Operand.tmp 38) (Go.Operand.tmp 42) 22, type := 4, pos := "load.go:37", after := #[⟨5, .data⟩, ⟨9, .data⟩, ⟨3, .guard⟩], guard := some (3, false) }) (v := undef) rfl (by kernel_rfl) (by kernel_rfl) (by kernel_rfl) (fun _ _ _ h => h) (Or.inr ⟨by rfl, rfl⟩) (by assumption) ?_
          try simp only [Act.put, List.setIfInBounds_toArray, List.set_cons_zero, List.set_cons_succ]
          refine wpAnyH_take (i := 11) (oi := { dst := some 44, op := Go.Op.pick (Go.Operand.tmp 36) (Go.Operand.const (Go.Value.bool true)) (Go.Operand.tmp 43), type := 4, pos := "load.go:37", after := #[⟨3, .data⟩, ⟨10, .data⟩], guard := none }) (v := ?vrct5) rfl (by kernel_rfl) (by kernel_rfl) (by kernel_rfl) (fun _ _ _ h => h) (Or.inl ⟨by rfl, ?rrct5⟩) (by assumption) ?_
          case rrct5 => (intro w hSw; (try dsimp only at hSw); (go_simp <;> with_reducible rfl))
          try simp only [Act.put, List.setIfInBounds_toArray, List.set_cons_zero, List.set_cons_succ]
          refine wpAnyH_take (i := 12) (oi := { dst := some 45, op := Go.Op.move (Go.Operand.tmp 44), type := 4, pos := "load.go:37", after := #[⟨11, .data⟩, ⟨3, .chain⟩], guard := none }) (v := ?vrct6) rfl (by kernel_rfl) (by kernel_rfl) (by kernel_rfl) (fun _ _ _ h => h) (Or.inl ⟨by rfl, ?rrct6⟩) (by assumption) ?_
          case rrct6 => (intro w hSw; (try dsimp only at hSw); (go_simp <;> with_reducible rfl))
          try simp only [Act.put, List.setIfInBounds_toArray, List.set_cons_zero, List.set_cons_succ]
          refine wpAnyH_take (i := 13) (oi := { dst := some 46, op := Go.Op.move (Go.Operand.tmp 0), type := 25, pos := "load.go:37", after := #[⟨12, .guard⟩], guard := some (12, false) }) (v := undef) rfl (by kernel_rfl) (by kernel_rfl) (by kernel_rfl) (fun _ _ _ h => h) (Or.inr ⟨by rfl, rfl⟩) (by assumption) ?_
          try simp only [Act.put, List.setIfInBounds_toArray, List.set_cons_zero, List.set_cons_succ]
          refine wpAnyH_take (i := 14) (oi := { dst := some 47, op := Go.Op.nilCheck (Go.Operand.tmp 46), type := 0, pos := "load.go:37", after := #[⟨13, .data⟩, ⟨12, .guard⟩], guard := some (12, false) }) (v := undef) rfl (by kernel_rfl) (by kernel_rfl) (by kernel_rfl) (fun _ _ _ h => h) (Or.inr ⟨by rfl, rfl⟩) (by assumption) ?_
          try simp only [Act.put, List.setIfInBounds_toArray, List.set_cons_zero, List.set_cons_succ]
          refine wpAnyH_take (i := 15) (oi := { dst := some 48, op := Go.Op.fieldAddr 69 (Go.Operand.tmp 47) 0, type := 0, pos := "load.go:37", after := #[⟨14, .data⟩, ⟨12, .guard⟩], guard := some (12, false) }) (v := undef) rfl (by kernel_rfl) (by kernel_rfl) (by kernel_rfl) (fun _ _ _ h => h) (Or.inr ⟨by rfl, rfl⟩) (by assumption) ?_
          try simp only [Act.put, List.setIfInBounds_toArray, List.set_cons_zero, List.set_cons_succ]
          refine wpAnyH_take (i := 16) (oi := { dst := some 49, op := Go.Op.load 37 (Go.Operand.tmp 48), type := 37, pos := "load.go:37", after := #[⟨15, .data⟩, ⟨12, .guard⟩], guard := some (12, false) }) (v := undef) rfl (by kernel_rfl) (by kernel_rfl) (by kernel_rfl) (fun _ _ _ h => h) (Or.inr ⟨by rfl, rfl⟩) (by assumption) ?_
          try simp only [Act.put, List.setIfInBounds_toArray, List.set_cons_zero, List.set_cons_succ]
          refine wpAnyH_take (i := 17) (oi := { dst := some 50, op := Go.Op.load 42 (Go.Operand.tmp 3), type := 42, pos := "load.go:37", after := #[⟨12, .guard⟩], guard := some (12, false) }) (v := undef) rfl (by kernel_rfl) (by kernel_rfl) (by kernel_rfl) (fun _ _ _ h => h) (Or.inr ⟨by rfl, rfl⟩) (by assumption) ?_
          try simp only [Act.put, List.setIfInBounds_toArray, List.set_cons_zero, List.set_cons_succ]
          refine wpAnyH_take (i := 18) (oi := { dst := some 51, op := Go.Op.makeFunc (Go.Fn.func 58) #[Go.Operand.tmp 50] #[], type := 84, pos := "load.go:37", after := #[⟨17, .data⟩, ⟨12, .guard⟩], guard := some (12, false) }) (v := undef) rfl (by kernel_rfl) (by kernel_rfl) (by kernel_rfl) (fun _ _ _ h => h) (Or.inr ⟨by rfl, rfl⟩) (by assumption) ?_
          try simp only [Act.put, List.setIfInBounds_toArray, List.set_cons_zero, List.set_cons_succ]
          refine wpAnyH_take (i := 19) (oi := { dst := some 52, op := Go.Op.call { callee := Go.Callee.value (Go.Operand.func 57), args := #[Go.Operand.tmp 49, Go.Operand.tmp 51], argTypes := #[37, 84] }, type := 4, pos := "load.go:37", after := #[⟨16, .data⟩, ⟨18, .data⟩, ⟨12, .chain⟩, ⟨12, .guard⟩], guard := some (12, false) }) (v := undef) rfl (by kernel_rfl) (by kernel_rfl) (by kernel_rfl) (fun _ _ _ h => h) (Or.inr ⟨by rfl, rfl⟩) (by assumption) ?_
          try simp only [Act.put, List.setIfInBounds_toArray, List.set_cons_zero, List.set_cons_succ]
          refine wpAnyH_take (i := 20) (oi := { dst := some 53, op := Go.Op.pick (Go.Operand.tmp 45) (Go.Operand.const (Go.Value.bool true)) (Go.Operand.tmp 52), type := 4, pos := "load.go:37", after := #[⟨12, .data⟩, ⟨19, .data⟩], guard := none }) (v := ?vrct7) rfl (by kernel_rfl) (by kernel_rfl) (by kernel_rfl) (fun _ _ _ h => h) (Or.inl ⟨by rfl, ?rrct7⟩) (by assumption) ?_
          case rrct7 => (intro w hSw; (try dsimp only at hSw); (go_simp <;> with_reducible rfl))
          try simp only [Act.put, List.setIfInBounds_toArray, List.set_cons_zero, List.set_cons_succ]
          refine wpAnyH_done (by kernel_rfl) ?_ _
          have HG4 := Lib.hid (HGW.out.trans h0.1)
          clear h0 c0 c2 x0 x1 x2 x3
          go_wp2
          go_ret
          exact ⟨(by rw [HEQ.out]; try rfl), HG4.out⟩
        · have e0 : (xk == 0) = false := by simpa using t0
          by_cases t1 : la < xk
          · have d1 : decide (la < xk) = true := decide_eq_true t1
            have hrf : r = false := by rw [HEQ.out, decide_eq_false (p := xk ≤ la) (by omega)]; simp
            have HEQ := Lib.hid hrf
            clear t0 t1 hrf
            go_wp2_with fail
            refine wp_region_held_drew (S := (fun w9 => Gr w2 w9 ∧ w9.cell? ⟨b, 0, none⟩ = some (.slice (some ⟨g, 0, none⟩) (j + 1) k1) ∧ w9.cell? ⟨b, 2, none⟩ = some (.int .u64 la) ∧ w9.cell? ⟨w.heap.size, 0, none⟩ = some (.int .i64 xs) ∧ w9.cell? ⟨w.heap.size, 1, none⟩ = some (.string xt) ∧ w9.cell? ⟨w.heap.size, 2, none⟩ = some (.bool xe) ∧ w9.cell? ⟨w.heap.size, 3, none⟩ = some (.int .u64 xk))) (by kernel_rfl) ?invrcu (fun h0 => ?_)
            case invrcu => ((try dsimp only); (exact HX4.out _ _ ((Gr.refl _).drew) ⟨hz, c0, c2, x0, x1, x2, x3⟩))
            refine wpAnyH_take (i := 0) (oi := { dst := some 33, op := Go.Op.fieldAddr 42 (Go.Operand.tmp 3) 3, type := 0, pos := "load.go:37", after := #[], guard := none }) (v := ?vrcu1) rfl (by kernel_rfl) (by kernel_rfl) (by kernel_rfl) (fun _ _ _ h => h) (Or.inl ⟨by rfl, ?rrcu1⟩) (by assumption) ?_
            case rrcu1 => (intro w hSw; (try dsimp only at hSw); (go_simp <;> with_reducible rfl))
            try simp only [Act.put, List.setIfInBounds_toArray, List.set_cons_zero, List.set_cons_succ]
            refine wpAnyH_take (i := 1) (oi := { dst := some 34, op := Go.Op.load 22 (Go.Operand.tmp 33), type := 22, pos := "load.go:37", after := #[⟨0, .data⟩], guard := none }) (v := ?vrcu2) rfl (by kernel_rfl) (by kernel_rfl) (by kernel_rfl) (fun _ _ _ h => h) (Or.inl ⟨by rfl, ?rrcu2⟩) (by assumption) ?_
            case rrcu2 => (intro w hSw; (try dsimp only at hSw); (go_simp <;> with_reducible rfl))
            try simp only [Act.put, List.setIfInBounds_toArray, List.set_cons_zero, List.set_cons_succ]
            refine wpAnyH_take (i := 2) (oi := { dst := some 35, op := Go.Op.binOp Go.BinOp.eql 22 (Go.Operand.tmp 34) (Go.Operand.const (Go.Value.int Go.IntKind.u64 0)) 22, type := 4, pos := "load.go:37", after := #[⟨1, .data⟩], guard := none }) (v := ?vrcu3) rfl (by kernel_rfl) (by kernel_rfl) (by kernel_rfl) (fun _ _ _ h => h) (Or.inl ⟨by rfl, ?rrcu3⟩) (by assumption) ?_
            case rrcu3 => (intro w hSw; (try dsimp only at hSw); (go_simp <;> with_reducible rfl))
            try simp only [Act.put, List.setIfInBounds_toArray, List.set_cons_zero, List.set_cons_succ]
            refine wpAnyH_take (i := 3) (oi := { dst := some 36, op := Go.Op.move (Go.Operand.tmp 35), type := 4, pos := "load.go:37", after := #[⟨2, .data⟩], guard := none }) (v := ?vrcu4) rfl (by kernel_rfl) (by kernel_rfl) (by kernel_rfl) (fun _ _ _ h => h) (Or.inl ⟨by rfl, ?rrcu4⟩) (by assumption) ?_
            case rrcu4 => (intro w hSw; (try dsimp only at hSw); (go_simp <;> with_reducible rfl))
            try simp only [Act.put, List.setIfInBounds_toArray, List.set_cons_zero, List.set_cons_succ]
            refine wpAnyH_take (i := 4) (oi := { dst := some 37, op := Go.Op.fieldAddr 42 (Go.Operand.tmp 3) 3, type := 0, pos := "load.go:37", after := #[⟨3, .guard⟩], guard := some (3, false) }) (v := ?vrcu5) rfl (by kernel_rfl) (by kernel_rfl) (by kernel_rfl) (fun _ _ _ h => h) (Or.inl ⟨by rfl, ?rrcu5⟩) (by assumption) ?_
            case rrcu5 => (intro w hSw; (try dsimp only at hSw); (go_simp <;> with_reducible rfl))
            try simp only [Act.put, List.setIfInBounds_toArray, List.set_cons_zero, List.set_cons_succ]
            refine wpAnyH_take (i := 5) (oi := { dst := some 38, op := Go.Op.load 22 (Go.Operand.tmp 37), type := 22, pos := "load.go:37", after := #[⟨4, .data⟩, ⟨3, .guard⟩], guard := some (3, false) }) (v := ?vrcu6) rfl (by kernel_rfl) (by kernel_rfl) (by kernel_rfl) (fun _ _ _ h => h) (Or.inl ⟨by rfl, ?rrcu6⟩) (by assumption) ?_
            case rrcu6 => (intro w hSw; (try dsimp only at hSw); (go_simp <;> with_reducible rfl))
            try simp only [Act.put, List.setIfInBounds_toArray, List.set_cons_zero, List.set_cons_succ]
            refine wpAnyH_take (i := 6) (oi := { dst := some 39, op := Go.Op.move (Go.Operand.tmp 0), type := 25, pos := "load.go:37", after := #[⟨3, .guard⟩], guard := some (3, false) }) (v := ?vrcu7) rfl (by kernel_rfl) (by kernel_rfl) (by kernel_rfl) (fun _ _ _ h => h) (Or.inl ⟨by rfl, ?rrcu7⟩) (by assumption) ?_
            case rrcu7 => (intro w hSw; (try dsimp only at hSw); (go_simp <;> with_reducible rfl))
            try simp only [Act.put, List.setIfInBounds_toArray, List.set_cons_zero, List.set_cons_succ]
            refine wpAnyH_take (i := 7) (oi := { dst := some 40, op := Go.Op.nilCheck (Go.Operand.tmp 39), type := 0, pos := "load.go:37", after := #[⟨6, .data⟩, ⟨3, .guard⟩], guard := some (3, false) }) (v := ?vrcu8) rfl (by kernel_rfl) (by kernel_rfl) (by kernel_rfl) (fun _ _ _ h => h) (Or.inl ⟨by rfl, ?rrcu8⟩) (by assumption) ?_
            case rrcu8 => (intro w hSw; (try dsimp only at hSw); (go_simp <;> with_reducible rfl))
            try simp only [Act.put, List.setIfInBounds_toArray, List.set_cons_zero, List.set_cons_succ]
            refine wpAnyH_take (i := 8) (oi := { dst := some 41, op := Go.Op.fieldAddr 69 (Go.Operand.tmp 40) 2, type := 0, pos := "load.go:37", after := #[⟨7, .data⟩, ⟨3, .guard⟩], guard := some (3, false) }) (v := ?vrcu9) rfl (by kernel_rfl) (by kernel_rfl) (by kernel_rfl) (fun _ _ _ h => h) (Or.inl ⟨by rfl, ?rrcu9⟩) (by assumption) ?_
            case rrcu9 => (intro w hSw; (try dsimp only at hSw); (go_simp <;> with_reducible rfl))
            try simp only [Act.put, List.setIfInBounds_toArray, List.set_cons_zero, List.set_cons_succ]
            refine wpAnyH_take (i := 9) (oi := { dst := some 42, op := Go.Op.load 22 (Go.Operand.tmp 41), type := 22, pos := "load.go:37", after := #[⟨8, .data⟩, ⟨3, .guard⟩], guard := some (3, false) }) (v := ?vrcu10) rfl (by kernel_rfl) (by kernel_rfl) (by kernel_rfl) (fun _ _ _ h => h) (Or.inl ⟨by rfl, ?rrcu10⟩) (by assumption) ?_
            case rrcu10 => (intro w hSw; (try dsimp only at hSw); (go_simp <;> with_reducible rfl))
            try simp only [Act.put, List.setIfInBounds_toArray, List.set_cons_zero, List.set_cons_succ]
            refine wpAnyH_take (i := 10) (oi := { dst := some 43, op := Go.Op.binOp Go.BinOp.gtr 22 (Go.Operand.tmp 38) (Go.Operand.tmp 42) 22, type := 4, pos := "load.go:37", after := #[⟨5, .data⟩, ⟨9, .data⟩, ⟨3, .guard⟩], guard := some (3, false) }) (v := ?vrcu11) rfl (by kernel_rfl) (by kernel_rfl) (by kernel_rfl) (fun _ _ _ h => h) (Or.inl ⟨by rfl, ?rrcu11⟩) (by assumption) ?_
            case rrcu11 => (intro w hSw; (try dsimp only at hSw); (go_simp <;> with_reducible rfl))
            try simp only [Act.put, List.setIfInBounds_toArray, List.set_cons_zero, List.set_cons_succ]
            refine wpAnyH_take (i := 11) (oi := { dst := some 44, op := Go.Op.pick (Go.Operand.tmp 36) (Go.Operand.const (Go.Value.bool true)) (Go.Operand.tmp 43), type := 4, pos := "load.go:37", after := #[⟨3, .data⟩, ⟨10, .data⟩], guard := none }) (v := ?vrcu12) rfl (by kernel_rfl) (by kernel_rfl) (by kernel_rfl) (fun _ _ _ h => h) (Or.inl ⟨by rfl, ?rrcu12⟩) (by assumption) ?_
            case rrcu12 => (intro w hSw; (try dsimp only at hSw); (go_simp <;> with_reducible rfl))
            try simp only [Act.put, List.setIfInBounds_toArray, List.set_cons_zero, List.set_cons_succ]
            refine wpAnyH_take (i := 12) (oi := { dst := some 45, op := Go.Op.move (Go.Operand.tmp 44), type := 4, pos := "load.go:37", after := #[⟨11, .data⟩, ⟨3, .chain⟩], guard := none }) (v := ?vrcu13) rfl (by kernel_rfl) (by kernel_rfl) (by kernel_rfl) (fun _ _ _ h => h) (Or.inl ⟨by rfl, ?rrcu13⟩) (by assumption) ?_
            case rrcu13 => (intro w hSw; (try dsimp only at hSw); (go_simp <;> with_reducible rfl))
            try simp only [Act.put, List.setIfInBounds_toArray, List.set_cons_zero, List.set_cons_succ]
            refine wpAnyH_take (i := 13) (oi := { dst := some 46, op := Go.Op.move (Go.Operand.tmp 0), type := 25, pos := "load.go:37", after := #[⟨12, .guard⟩], guard := some (12, false) }) (v := undef) rfl (by kernel_rfl) (by kernel_rfl) (by kernel_rfl) (fun _ _ _ h => h) (Or.inr ⟨by rfl, rfl⟩) (by assumption) ?_
            try simp only [Act.put, List.setIfInBounds_toArray, List.set_cons_zero, List.set_cons_succ]
            refine wpAnyH_take (i := 14) (oi := { dst := some 47, op := Go.Op.nilCheck (Go.Operand.tmp 46), type := 0, pos := "load.go:37", after := #[⟨13, .data⟩, ⟨12, .guard⟩], guard := some (12, false) }) (v := undef) rfl (by kernel_rfl) (by kernel_rfl) (by kernel_rfl) (fun _ _ _ h => h) (Or.inr ⟨by rfl, rfl⟩) (by assumption) ?_
            try simp only [Act.put, List.setIfInBounds_toArray, List.set_cons_zero, List.set_cons_succ]
            refine wpAnyH_take (i := 15) (oi := { dst := some 48, op := Go.Op.fieldAddr 69 (Go.Operand.tmp 47) 0, type := 0, pos := "load.go:37", after := #[⟨14, .data⟩, ⟨12, .guard⟩], guard := some (12, false) }) (v := undef) rfl (by kernel_rfl) (by kernel_rfl) (by kernel_rfl) (fun _ _ _ h => h) (Or.inr ⟨by rfl, rfl⟩) (by assumption) ?_
            try simp only [Act.put, List.setIfInBounds_toArray, List.set_cons_zero, List.set_cons_succ]
            refine wpAnyH_take (i := 16) (oi := { dst := some 49, op := Go.Op.load 37 (Go.Operand.tmp 48), type := 37, pos := "load.go:37", after := #[⟨15, .data⟩, ⟨12, .guard⟩], guard := some (12, false) }) (v := undef) rfl (by kernel_rfl) (by kernel_rfl) (by kernel_rfl) (fun _ _ _ h => h) (Or.inr ⟨by rfl, rfl⟩) (by assumption) ?_
            try simp only [Act.put, List.setIfInBounds_toArray, List.set_cons_zero, List.set_cons_succ]
            refine wpAnyH_take (i := 17) (oi := { dst := some 50, op := Go.Op.load 42 (Go.Operand.tmp 3), type := 42, pos := "load.go:37", after := #[⟨12, .guard⟩], guard := some (12, false) }) (v := undef) rfl (by kernel_rfl) (by kernel_rfl) (by kernel_rfl) (fun _ _ _ h => h) (Or.inr ⟨by rfl, rfl⟩) (by assumption) ?_
            try simp only [Act.put, List.setIfInBounds_toArray, List.set_cons_zero, List.set_cons_succ]
            refine wpAnyH_take (i := 18) (oi := { dst := some 51, op := Go.Op.makeFunc (Go.Fn.func 58) #[Go.Operand.tmp 50] #[], type := 84, pos := "load.go:37", after := #[⟨17, .data⟩, ⟨12, .guard⟩], guard := some (12, false) }) (v := undef) rfl (by kernel_rfl) (by kernel_rfl) (by kernel_rfl) (fun _ _ _ h => h) (Or.inr ⟨by rfl, rfl⟩) (by assumption) ?_
            try simp only [Act.put, List.setIfInBounds_toArray, List.set_cons_zero, List.set_cons_succ]
            refine wpAnyH_take (i := 19) (oi := { dst := some 52, op := Go.Op.call { callee := Go.Callee.value (Go.Operand.func 57), args := #[Go.Operand.tmp 49, Go.Operand.tmp 51], argTypes := #[37, 84] }, type := 4, pos := "load.go:37", after := #[⟨16, .data⟩, ⟨18, .data⟩, ⟨12, .chain⟩, ⟨12, .guard⟩], guard := some (12, false) }) (v := undef) rfl (by kernel_rfl) (by kernel_rfl) (by kernel_rfl) (fun _ _ _ h => h) (Or.inr ⟨by rfl, rfl⟩) (by assumption) ?_
            try simp only [Act.put, List.setIfInBounds_toArray, List.set_cons_zero, List.set_cons_succ]
            refine wpAnyH_take (i := 20) (oi := { dst := some 53, op := Go.Op.pick (Go.Operand.tmp 45) (Go.Operand.const (Go.Value.bool true)) (Go.Operand.tmp 52), type := 4, pos := "load.go:37", after := #[⟨12, .data⟩, ⟨19, .data⟩], guard := none }) (v := ?vrcu14) rfl (by kernel_rfl) (by kernel_rfl) (by kernel_rfl) (fun _ _ _ h => h) (Or.inl ⟨by rfl, ?rrcu14⟩) (by assumption) ?_
            case rrcu14 => (intro w hSw; (try dsimp only at hSw); (go_simp <;> with_reducible rfl))
            try simp only [Act.put, List.setIfInBounds_toArray, List.set_cons_zero, List.set_cons_succ]
            refine wpAnyH_done (by kernel_rfl) ?_ _
            have HG4 := Lib.hid (HGW.out.trans h0.1)
            clear h0 c0 c2 x0 x1 x2 x3
            go_wp2
            go_ret
            exact ⟨(by rw [HEQ.out]; try rfl), HG4.out⟩
          · have d1 : decide (la < xk) = false := decide_eq_false t1
            rw [decide_eq_true t0, decide_eq_true (p := xk ≤ la) (by omega), Bool.true_and, Bool.true_and] at HEQ
            clear t0 t1
            go_wp2_with fail
            refine wp_region_held_drew (S := (fun w9 => Gr w2 w9 ∧ w9.cell? ⟨b, 0, none⟩ = some (.slice (some ⟨g, 0, none⟩) (j + 1) k1) ∧ w9.cell? ⟨b, 2, none⟩ = some (.int .u64 la) ∧ w9.cell? ⟨w.heap.size, 0, none⟩ = some (.int .i64 xs) ∧ w9.cell? ⟨w.heap.size, 1, none⟩ = some (.string xt) ∧ w9.cell? ⟨w.heap.size, 2, none⟩ = some (.bool xe) ∧ w9.cell? ⟨w.heap.size, 3, none⟩ = some (.int .u64 xk))) (by kernel_rfl) ?invrcv (fun h0 => ?_)
            case invrcv => ((try dsimp only); (exact HX4.out _ _ ((Gr.refl _).drew) ⟨hz, c0, c2, x0, x1, x2, x3⟩))
            refine wpAnyH_take (i := 0) (oi := { dst := some 33, op := Go.Op.fieldAddr 42 (Go.Operand.tmp 3) 3, type := 0, pos := "load.go:37", after := #[], guard := none }) (v := ?vrcv1) rfl (by kernel_rfl) (by kernel_rfl) (by kernel_rfl) (fun _ _ _ h => h) (Or.inl ⟨by rfl, ?rrcv1⟩) (by assumption) ?_
            case rrcv1 => (intro w hSw; (try dsimp only at hSw); (go_simp <;> with_reducible rfl))
            try simp only [Act.put, List.setIfInBounds_toArray, List.set_cons_zero, List.set_cons_succ]
            refine wpAnyH_take (i := 1) (oi := { dst := some 34, op := Go.Op.load 22 (Go.Operand.tmp 33), type := 22, pos := "load.go:37", after := #[⟨0, .data⟩], guard := none }) (v := ?vrcv2) rfl (by kernel_rfl) (by kernel_rfl) (by kernel_rfl) (fun _ _ _ h => h) (Or.inl ⟨by rfl, ?rrcv2⟩) (by assumption) ?_
            case rrcv2 => (intro w hSw; (try dsimp only at hSw); (go_simp <;> with_reducible rfl))
            try simp only [Act.put, List.setIfInBounds_toArray, List.set_cons_zero, List.set_cons_succ]
            refine wpAnyH_take (i := 2) (oi := { dst := some 35, op := Go.Op.binOp Go.BinOp.eql 22 (Go.Operand.tmp 34) (Go.Operand.const (Go.Value.int Go.IntKind.u64 0)) 22, type := 4, pos := "load.go:37", after := #[⟨1, .data⟩], guard := none }) (v := ?vrcv3) rfl (by kernel_rfl) (by kernel_rfl) (by kernel_rfl) (fun _ _ _ h => h) (Or.inl ⟨by rfl, ?rrcv3⟩) (by assumption) ?_
            case rrcv3 => (intro w hSw; (try dsimp only at hSw); (go_simp <;> with_reducible rfl))
            try simp only [Act.put, List.setIfInBounds_toArray, List.set_cons_zero, List.set_cons_succ]
            refine wpAnyH_take (i := 3) (oi := { dst := some 36, op := Go.Op.move (Go.Operand.tmp 35), type := 4, pos := "load.go:37", after := #[⟨2, .data⟩], guard := none }) (v := ?vrcv4) rfl (by kernel_rfl) (by kernel_rfl) (by kernel_rfl) (fun _ _ _ h => h) (Or.inl ⟨by rfl, ?rrcv4⟩) (by assumption) ?_
            case rrcv4 => (intro w hSw; (try dsimp only at hSw); (go_simp <;> with_reducible rfl))
            try simp only [Act.put, List.setIfInBounds_toArray, List.set_cons_zero, List.set_cons_succ]
            refine wpAnyH_take (i := 4) (oi := { dst := some 37, op := Go.Op.fieldAddr 42 (Go.Operand.tmp 3) 3, type := 0, pos := "load.go:37", after := #[⟨3, .guard⟩], guard := some (3, false) }) (v := ?vrcv5) rfl (by kernel_rfl) (by kernel_rfl) (by kernel_rfl) (fun _ _ _ h => h) (Or.inl ⟨by rfl, ?rrcv5⟩) (by assumption) ?_
            case rrcv5 => (intro w hSw; (try dsimp only at hSw); (go_simp <;> with_reducible rfl))
            try simp only [Act.put, List.setIfInBounds_toArray, List.set_cons_zero, List.set_cons_succ]
            refine wpAnyH_take (i := 5) (oi := { dst := some 38, op := Go.Op.load 22 (Go.Operand.tmp 37), type := 22, pos := "load.go:37", after := #[⟨4, .data⟩, ⟨3, .guard⟩], guard := some (3, false) }) (v := ?vrcv6) rfl (by kernel_rfl) (by kernel_rfl) (by kernel_rfl) (fun _ _ _ h => h) (Or.inl ⟨by rfl, ?rrcv6⟩) (by assumption) ?_
            case rrcv6 => (intro w hSw; (try dsimp only at hSw); (go_simp <;> with_reducible rfl))
            try simp only [Act.put, List.setIfInBounds_toArray, List.set_cons_zero, List.set_cons_succ]
            refine wpAnyH_take (i := 6) (oi := { dst := some 39, op := Go.Op.move (Go.Operand.tmp 0), type := 25, pos := "load.go:37", after := #[⟨3, .guard⟩], guard := some (3, false) }) (v := ?vrcv7) rfl (by kernel_rfl) (by kernel_rfl) (by kernel_rfl) (fun _ _ _ h => h) (Or.inl ⟨by rfl, ?rrcv7⟩) (by assumption) ?_
            case rrcv7 => (intro w hSw; (try dsimp only at hSw); (go_simp <;> with_reducible rfl))
            try simp only [Act.put, List.setIfInBounds_toArray, List.set_cons_zero, List.set_cons_succ]
            refine wpAnyH_take (i := 7) (oi := { dst := some 40, op := Go.Op.nilCheck (Go.Operand.tmp 39), type := 0, pos := "load.go:37", after := #[⟨6, .data⟩, ⟨3, .guard⟩], guard := some (3, false) }) (v := ?vrcv8) rfl (by kernel_rfl) (by kernel_rfl) (by kernel_rfl) (fun _ _ _ h => h) (Or.inl ⟨by rfl, ?rrcv8⟩) (by assumption) ?_
            case rrcv8 => (intro w hSw; (try dsimp only at hSw); (go_simp <;> with_reducible rfl))
            try simp only [Act.put, List.setIfInBounds_toArray, List.set_cons_zero, List.set_cons_succ]
            refine wpAnyH_take (i := 8) (oi := { dst := some 41, op := Go.Op.fieldAddr 69 (Go.Operand.tmp 40) 2, type := 0, pos := "load.go:37", after := #[⟨7, .data⟩, ⟨3, .guard⟩], guard := some (3, false) }) (v := ?vrcv9) rfl (by kernel_rfl) (by kernel_rfl) (by kernel_rfl) (fun _ _ _ h => h) (Or.inl ⟨by rfl, ?rrcv9⟩) (by assumption) ?_
            case rrcv9 => (intro w hSw; (try dsimp only at hSw); (go_simp <;> with_reducible rfl))
            try simp only [Act.put, List.setIfInBounds_toArray, List.set_cons_zero, List.set_cons_succ]
            refine wpAnyH_take (i := 9) (oi := { dst := some 42, op := Go.Op.load 22 (Go.Operand.tmp 41), type := 22, pos := "load.go:37", after := #[⟨8, .data⟩, ⟨3, .guard⟩], guard := some (3, false) }) (v := ?vrcv10) rfl (by kernel_rfl) (by kernel_rfl) (by kernel_rfl) (fun _ _ _ h => h) (Or.inl ⟨by rfl, ?rrcv10⟩) (by assumption) ?_
            case rrcv10 => (intro w hSw; (try dsimp only at hSw); (go_simp <;> with_reducible rfl))
            try simp only [Act.put, List.setIfInBounds_toArray, List.set_cons_zero, List.set_cons_succ]
            refine wpAnyH_take (i := 10) (oi := { dst := some 43, op := Go.Op.binOp Go.BinOp.gtr 22 (Go.Operand.tmp 38) (Go.Operand.tmp 42) 22, type := 4, pos := "load.go:37", after := #[⟨5, .data⟩, ⟨9, .data⟩, ⟨3, .guard⟩], guard := some (3, false) }) (v := ?vrcv11) rfl (by kernel_rfl) (by kernel_rfl) (by kernel_rfl) (fun _ _ _ h => h) (Or.inl ⟨by rfl, ?rrcv11⟩) (by assumption) ?_
            case rrcv11 => (intro w hSw; (try dsimp only at hSw); (go_simp <;> with_reducible rfl))
            try simp only [Act.put, List.setIfInBounds_toArray, List.set_cons_zero, List.set_cons_succ]
            refine wpAnyH_take (i := 11) (oi := { dst := some 44, op := Go.Op.pick (Go.Operand.tmp 36) (Go.Operand.const (Go.Value.bool true)) (Go.Operand.tmp 43), type := 4, pos := "load.go:37", after := #[⟨3, .data⟩, ⟨10, .data⟩], guard := none }) (v := ?vrcv12) rfl (by kernel_rfl) (by kernel_rfl) (by kernel_rfl) (fun _ _ _ h => h) (Or.inl ⟨by rfl, ?rrcv12⟩) (by assumption) ?_
            case rrcv12 => (intro w hSw; (try dsimp only at hSw); (go_simp <;> with_reducible rfl))
            try simp only [Act.put, List.setIfInBounds_toArray, List.set_cons_zero, List.set_cons_succ]
            refine wpAnyH_take (i := 12) (oi := { dst := some 45, op := Go.Op.move (Go.Operand.tmp 44), type := 4, pos := "load.go:37", after := #[⟨11, .data⟩, ⟨3, .chain⟩], guard := none }) (v := ?vrcv13) rfl (by kernel_rfl) (by kernel_rfl) (by kernel_rfl) (fun _ _ _ h => h) (Or.inl ⟨by rfl, ?rrcv13⟩) (by assumption) ?_
            case rrcv13 => (intro w hSw; (try dsimp only at hSw); (go_simp <;> with_reducible rfl))
            try simp only [Act.put, List.setIfInBounds_toArray, List.set_cons_zero, List.set_cons_succ]
            refine wpAnyH_take (i := 13) (oi := { dst := some 46, op := Go.Op.move (Go.Operand.tmp 0), type := 25, pos := "load.go:37", after := #[⟨12, .guard⟩], guard := some (12, false) }) (v := ?vrcv14) rfl (by kernel_rfl) (by kernel_rfl) (by kernel_rfl) (fun _ _ _ h => h) (Or.inl ⟨by rfl, ?rrcv14⟩) (by assumption) ?_
            case rrcv14 => (intro w hSw; (try dsimp only at hSw); (go_simp <;> with_reducible rfl))
            try simp only [Act.put, List.setIfInBounds_toArray, List.set_cons_zero, List.set_cons_succ]
            refine wpAnyH_take (i := 14) (oi := { dst := some 47, op := Go.Op.nilCheck (Go.Operand.tmp 46), type := 0, pos := "load.go:37", after := #[⟨13, .data⟩, ⟨12, .guard⟩], guard := some (12, false) }) (v := ?vrcv15) rfl (by kernel_rfl) (by kernel_rfl) (by kernel_rfl) (fun _ _ _ h => h) (Or.inl ⟨by rfl, ?rrcv15⟩) (by assumption) ?_
            case rrcv15 => (intro w hSw; (try dsimp only at hSw); (go_simp <;> with_reducible rfl))
            try simp only [Act.put, List.setIfInBounds_toArray, List.set_cons_zero, List.set_cons_succ]
            refine wpAnyH_take (i := 15) (oi := { dst := some 48, op := Go.Op.fieldAddr 69 (Go.Operand.tmp 47) 0, type := 0, pos := "load.go:37", after := #[⟨14, .data⟩, ⟨12, .guard⟩], guard := some (12, false) }) (v := ?vrcv16) rfl (by kernel_rfl) (by kernel_rfl) (by kernel_rfl) (fun _ _ _ h => h) (Or.inl ⟨by rfl, ?rrcv16⟩) (by assumption) ?_
            case rrcv16 => (intro w hSw; (try dsimp only at hSw); (go_simp <;> with_reducible rfl))
            try simp only [Act.put, List.setIfInBounds_toArray, List.set_cons_zero, List.set_cons_succ]
            refine wpAnyH_take (i := 16) (oi := { dst := some 49, op := Go.Op.load 37 (Go.Operand.tmp 48), type := 37, pos := "load.go:37", after := #[⟨15, .data⟩, ⟨12, .guard⟩], guard := some (12, false) }) (v := ?vrcv17) rfl (by kernel_rfl) (by kernel_rfl) (by kernel_rfl) (fun _ _ _ h => h) (Or.inl ⟨by rfl, ?rrcv17⟩) (by assumption) ?_
            case rrcv17 => (intro w hSw; (try dsimp only at hSw); (go_simp <;> with_reducible rfl))
            try simp only [Act.put, List.setIfInBounds_toArray, List.set_cons_zero, List.set_cons_succ]
            refine wpAnyH_take (i := 17) (oi := { dst := some 50, op := Go.Op.load 42 (Go.Operand.tmp 3), type := 42, pos := "load.go:37", after := #[⟨12, .guard⟩], guard := some (12, false) }) (v := ?vrcv18) rfl (by kernel_rfl) (by kernel_rfl) (by kernel_rfl) (fun _ _ _ h => h) (Or.inl ⟨by rfl, ?rrcv18⟩) (by assumption) ?_
            case rrcv18 => (intro w hSw; (try dsimp only at hSw); (go_simp <;> with_reducible rfl))
            try simp only [Act.put, List.setIfInBounds_toArray, List.set_cons_zero, List.set_cons_succ]
            refine wpAnyH_take (i := 18) (oi := { dst := some 51, op := Go.Op.makeFunc (Go.Fn.func 58) #[Go.Operand.tmp 50] #[], type := 84, pos := "load.go:37", after := #[⟨17, .data⟩, ⟨12, .guard⟩], guard := some (12, false) }) (v := ?vrcv19) rfl (by kernel_rfl) (by kernel_rfl) (by kernel_rfl) (fun _ _ _ h => h) (Or.inl ⟨by rfl, ?rrcv19⟩) (by assumption) ?_
            case rrcv19 => (intro w hSw; (try dsimp only at hSw); (go_simp <;> with_reducible rfl))
            try simp only [Act.put, List.setIfInBounds_toArray, List.set_cons_zero, List.set_cons_succ]
            refine wpAnyH_ready (rs := [19]) (by kernel_rfl) (by simp) ?_
            refine AllReadyH.cons (o := { dst := some 52, op := Go.Op.call { callee := Go.Callee.value (Go.Operand.func 57), args := #[Go.Operand.tmp 49, Go.Operand.tmp 51], argTypes := #[37, 84] }, type := 4, pos := "load.go:37", after := #[⟨16, .data⟩, ⟨18, .data⟩, ⟨12, .chain⟩, ⟨12, .guard⟩], guard := some (12, false) }) rfl (fun K hK => ?_) AllReadyH.nil
            go_simp
            go_at_call 57
            refine (HA1.out _ (HGW.out.trans h0.1)).mono ?_
            rintro e w9 ⟨rfl, hgN⟩
            first | refine hK.out _ _ ?srcv20 (fun h20 => ?_) | (go_wp2_with fail; refine hK.out _ _ ?srcv20 (fun h20 => ?_))
            case srcv20 => ((try dsimp only); (exact HX4.out _ _ hgN h0))
            clear hK K h0
            try simp only [Act.put, List.setIfInBounds_toArray, List.set_cons_zero, List.set_cons_succ]
            refine wpAnyH_take (i := 20) (oi := { dst := some 53, op := Go.Op.pick (Go.Operand.tmp 45) (Go.Operand.const (Go.Value.bool true)) (Go.Operand.tmp 52), type := 4, pos := "load.go:37", after := #[⟨12, .data⟩, ⟨19, .data⟩], guard := none }) (v := ?vrcv21) rfl (by kernel_rfl) (by kernel_rfl) (by kernel_rfl) (fun _ _ _ h => h) (Or.inl ⟨by rfl, ?rrcv21⟩) (by assumption) ?_
            case rrcv21 => (intro w hSw; (try dsimp only at hSw); (go_simp <;> with_reducible rfl))
            try simp only [Act.put, List.setIfInBounds_toArray, List.set_cons_zero, List.set_cons_succ]
            refine wpAnyH_done (by kernel_rfl) ?_ _
            have hz := h20.1
            obtain ⟨c0, c2, x0, x1, x2, x3⟩ := h20.2
            cases q1
            · rw [Bool.not_false, Bool.true_and] at HEQ
              go_upto_region 6 with fail
              go_wp2_with fail
              refine wp_region_held_drew (S := (fun w9 => Gr w2 w9 ∧ w9.cell? ⟨b, 0, none⟩ = some (.slice (some ⟨g, 0, none⟩) (j + 1) k1) ∧ w9.cell? ⟨b, 2, none⟩ = some (.int .u64 la) ∧ w9.cell? ⟨w.heap.size, 0, none⟩ = some (.int .i64 xs) ∧ w9.cell? ⟨w.heap.size, 1, none⟩ = some (.string xt) ∧ w9.cell? ⟨w.heap.size, 2, none⟩ = some (.bool xe) ∧ w9.cell? ⟨w.heap.size, 3, none⟩ = some (.int .u64 xk))) (by kernel_rfl) ?invrcy (fun h0 => ?_)
              case invrcy => ((try dsimp only); (exact HX4.out _ _ ((Gr.refl _).drew) ⟨hz, c0, c2, x0, x1, x2, x3⟩))
              refine wpAnyH_take (i := 0) (oi := { dst := some 54, op := Go.Op.move (Go.Operand.tmp 0), type := 25, pos := "load.go:40", after := #[], guard := none }) (v := ?vrcy1) rfl (by kernel_rfl) (by kernel_rfl) (by kernel_rfl) (fun _ _ _ h => h) (Or.inl ⟨by rfl, ?rrcy1⟩) (by assumption) ?_
              case rrcy1 => (intro w hSw; (try dsimp only at hSw); (go_simp <;> with_reducible rfl))
              try simp only [Act.put, List.setIfInBounds_toArray, List.set_cons_zero, List.set_cons_succ]
              refine wpAnyH_take (i := 1) (oi := { dst := some 55, op := Go.Op.nilCheck (Go.Operand.tmp 54), type := 0, pos := "load.go:40", after := #[⟨0, .data⟩], guard := none }) (v := ?vrcy2) rfl (by kernel_rfl) (by kernel_rfl) (by kernel_rfl) (fun _ _ _ h => h) (Or.inl ⟨by rfl, ?rrcy2⟩) (by assumption) ?_
              case rrcy2 => (intro w hSw; (try dsimp only at hSw); (go_simp <;> with_reducible rfl))
              try simp only [Act.put, List.setIfInBounds_toArray, List.set_cons_zero, List.set_cons_succ]
              refine wpAnyH_take (i := 2) (oi := { dst := some 56, op := Go.Op.fieldAddr 69 (Go.Operand.tmp 55) 0, type := 0, pos := "load.go:40", after := #[⟨1, .data⟩], guard := none }) (v := ?vrcy3) rfl (by kernel_rfl) (by kernel_rfl) (by kernel_rfl) (fun _ _ _ h => h) (Or.inl ⟨by rfl, ?rrcy3⟩) (by assumption) ?_
              case rrcy3 => (intro w hSw; (try dsimp only at hSw); (go_simp <;> with_reducible rfl))
              try simp only [Act.put, List.setIfInBounds_toArray, List.set_cons_zero, List.set_cons_succ]
              refine wpAnyH_take (i := 3) (oi := { dst := some 57, op := Go.Op.load 37 (Go.Operand.tmp 56), type := 37, pos := "load.go:40", after := #[⟨2, .data⟩], guard := none }) (v := ?vrcy4) rfl (by kernel_rfl) (by kernel_rfl) (by kernel_rfl) (fun _ _ _ h => h) (Or.inl ⟨by rfl, ?rrcy4⟩) (by assumption) ?_
              case rrcy4 => (intro w hSw; (try dsimp only at hSw); (go_simp <;> with_reducible rfl))
              try simp only [Act.put, List.setIfInBounds_toArray, List.set_cons_zero, List.set_cons_succ]
              refine wpAnyH_take (i := 4) (oi := { dst := some 58, op := Go.Op.load 42 (Go.Operand.tmp 3), type := 42, pos := "load.go:40", after := #[], guard := none }) (v := ?vrcy5) rfl (by kernel_rfl) (by kernel_rfl) (by kernel_rfl) (fun _ _ _ h => h) (Or.inl ⟨by rfl, ?rrcy5⟩) (by assumption) ?_
              case rrcy5 => (intro w hSw; (try dsimp only at hSw); (go_simp <;> with_reducible rfl))
              try simp only [Act.put, List.setIfInBounds_toArray, List.set_cons_zero, List.set_cons_succ]
              refine wpAnyH_take (i := 5) (oi := { dst := some 59, op := Go.Op.makeFunc (Go.Fn.func 59) #[Go.Operand.tmp 58] #[], type := 84, pos := "load.go:40", after := #[⟨4, .data⟩], guard := none }) (v := ?vrcy6) rfl (by kernel_rfl) (by kernel_rfl) (by kernel_rfl) (fun _ _ _ h => h) (Or.inl ⟨by rfl, ?rrcy6⟩) (by assumption) ?_
              case rrcy6 => (intro w hSw; (try dsimp only at hSw); (go_simp <;> with_reducible rfl))
              try simp only [Act.put, List.setIfInBounds_toArray, List.set_cons_zero, List.set_cons_succ]
              refine wpAnyH_ready (rs := [6]) (by kernel_rfl) (by simp) ?_
              refine AllReadyH.cons (o := { dst := some 60, op := Go.Op.call { callee := Go.Callee.value (Go.Operand.func 57), args := #[Go.Operand.tmp 57, Go.Operand.tmp 59], argTypes := #[37, 84] }, type := 4, pos := "load.go:40", after := #[⟨3, .data⟩, ⟨5, .data⟩], guard := none }) rfl (fun K hK => ?_) AllReadyH.nil
              go_simp
              go_at_call 57
              refine (HA2.out _ (HGW.out.trans h0.1)).mono ?_
              rintro e w9 ⟨rfl, hgN⟩
              first | refine hK.out _ _ ?srcy7 (fun h7 => ?_) | (go_wp2_with fail; refine hK.out _ _ ?srcy7 (fun h7 => ?_))
              case srcy7 => ((try dsimp only); (exact HX4.out _ _ hgN h0))
              clear hK K h0
              try simp only [Act.put, List.setIfInBounds_toArray, List.set_cons_zero, List.set_cons_succ]
              refine wpAnyH_take (i := 7) (oi := { dst := some 61, op := Go.Op.unOp Go.UnOp.not 4 (Go.Operand.tmp 60), type := 4, pos := "load.go:40", after := #[⟨6, .data⟩], guard := none }) (v := ?vrcy8) rfl (by kernel_rfl) (by kernel_rfl) (by kernel_rfl) (fun _ _ _ h => h) (Or.inl ⟨by rfl, ?rrcy8⟩) (by assumption) ?_
              case rrcy8 => (intro w hSw; (try dsimp only at hSw); (go_simp <;> with_reducible rfl))
              try simp only [Act.put, List.setIfInBounds_toArray, List.set_cons_zero, List.set_cons_succ]
              refine wpAnyH_take (i := 8) (oi := { dst := some 4, op := Go.Op.assign (Go.Operand.tmp 61), type := 4, pos := "load.go:40", after := #[⟨7, .data⟩, ⟨6, .chain⟩, ⟨0, .phase⟩, ⟨1, .phase⟩, ⟨2, .phase⟩, ⟨3, .phase⟩, ⟨4, .phase⟩, ⟨5, .phase⟩, ⟨6, .phase⟩, ⟨7, .phase⟩], guard := none }) (v := ?vrcy9) rfl (by kernel_rfl) (by kernel_rfl) (by kernel_rfl) (fun _ _ _ h => h) (Or.inl ⟨by rfl, ?rrcy9⟩) (by assumption) ?_
              case rrcy9 => (intro w hSw; (try dsimp only at hSw); (go_simp <;> with_reducible rfl))
              try simp only [Act.put, List.setIfInBounds_toArray, List.set_cons_zero, List.set_cons_succ]
              refine wpAnyH_done (by kernel_rfl) ?_ _
              have HG4 := Lib.hid (HGW.out.trans h7.1)
              clear h7
              go_wp2
              go_ret
              exact ⟨by rw [HEQ.out]; simp, HG4.out⟩
            · rw [Bool.not_true, Bool.false_and] at HEQ
              have HG4 := Lib.hid (HGW.out.trans hz)
              clear hz c0 c2 x0 x1 x2 x3
              go_wp2
              go_ret
              exact ⟨(by rw [HEQ.out]; try rfl), HG4.out⟩
    · have hcd : decide (0 ≤ cc) = true := decide_eq_true (by omega)
      rw [decide_eq_false hc] at HEQ
      clear hc
      go_wp2_with fail
      have HX : Hid (∀ w0 w9 : World, Gr w0 w9 → (fun w9 => Gr w2 w9 ∧ w9.cell? ⟨b, 0, none⟩ = some (.slice (some ⟨g, 0, none⟩) (j + 1) k1) ∧ w9.cell? ⟨b, 2, none⟩ = some (.int .u64 la) ∧ w9.cell? ⟨w.heap.size, 0, none⟩ = some (.int .i64 xs) ∧ w9.cell? ⟨w.heap.size, 1, none⟩ = some (.string xt) ∧ w9.cell? ⟨w.heap.size, 2, none⟩ = some (.bool xe) ∧ w9.cell? ⟨w.heap.size, 3, none⟩ = some (.int .u64 xk) ∧ w9.cell? ⟨g, j * 4, none⟩ = some (.int .i64 pv.ses) ∧ w9.cell? ⟨g, j * 4 + 1, none⟩ = some (.string pv.txt) ∧ w9.cell? ⟨g, j * 4 + 2, none⟩ = some (.bool pv.ex) ∧ w9.cell? ⟨g, j * 4 + 3, none⟩ = some (.int .u64 pv.tok)) w0 → (fun w9 => Gr w2 w9 ∧ w9.cell? ⟨b, 0, none⟩ = some (.slice (some ⟨g, 0, none⟩) (j + 1) k1) ∧ w9.cell? ⟨b, 2, none⟩ = some (.int .u64 la) ∧ w9.cell? ⟨w.heap.size, 0, none⟩ = some (.int .i64 xs) ∧ w9.cell? ⟨w.heap.size, 1, none⟩ = some (.string xt) ∧ w9.cell? ⟨w.heap.size, 2, none⟩ = some (.bool xe) ∧ w9.cell? ⟨w.heap.size, 3, none⟩ = some (.int .u64 xk) ∧ w9.cell? ⟨g, j * 4, none⟩ = some (.int .i64 pv.ses) ∧ w9.cell? ⟨g, j * 4 + 1, none⟩ = some (.string pv.txt) ∧ w9.cell? ⟨g, j * 4 + 2, none⟩ = some (.bool pv.ex) ∧ w9.cell? ⟨g, j * 4 + 3, none⟩ = some (.int .u64 pv.tok)) w9) := Lib.hid fun w0 w9 hg ⟨h, q0, q1, q2, q3, q4, q5, q6, q7, q8, q9⟩ => ⟨h.trans hg, hg.cell q0, hg.cell q1, hg.cell q2, hg.cell q3, hg.cell q4, hg.cell q5, hg.cell q6, hg.cell q7, hg.cell q8, hg.cell q9⟩
      refine wp_region_held_drew (S := (fun w9 => Gr w2 w9 ∧ w9.cell? ⟨b, 0, none⟩ = some (.slice (some ⟨g, 0, none⟩) (j + 1) k1) ∧ w9.cell? ⟨b, 2, none⟩ = some (.int .u64 la) ∧ w9.cell? ⟨w.heap.size, 0, none⟩ = some (.int .i64 xs) ∧ w9.cell? ⟨w.heap.size, 1, none⟩ = some (.string xt) ∧ w9.cell? ⟨w.heap.size, 2, none⟩ = some (.bool xe) ∧ w9.cell? ⟨w.heap.size, 3, none⟩ = some (.int .u64 xk) ∧ w9.cell? ⟨g, j * 4, none⟩ = some (.int .i64 pv.ses) ∧ w9.cell? ⟨g, j * 4 + 1, none⟩ = some (.string pv.txt) ∧ w9.cell? ⟨g, j * 4 + 2, none⟩ = some (.bool pv.ex) ∧ w9.cell? ⟨g, j * 4 + 3, none⟩ = some (.int .u64 pv.tok))) (by kernel_rfl) ?invb (fun h0 => ?_)
      case invb => ((try dsimp only); (exact HX.out _ _ ((Gr.refl _).drew) ⟨Gr.refl _, c0, c2, x0, x1, x2, x3, p0, p1, p2, p3⟩))
      refine wpAnyH_take (i := 0) (oi := { dst := some 11, op := Go.Op.move (Go.Operand.tmp 5), type := 3, pos := "load.go:34", after := #[], guard := none }) (v := ?vb1) rfl (by kernel_rfl) (by kernel_rfl) (by kernel_rfl) (fun _ _ _ h => h) (Or.inl ⟨by rfl, ?rb1⟩) (by assumption) ?_
      case rb1 => (intro w hSw; (try dsimp only at hSw); (go_simp <;> with_reducible rfl))
      try simp only [Act.put, List.setIfInBounds_toArray, List.set_cons_zero, List.set_cons_succ]
      refine wpAnyH_take (i := 1) (oi := { dst := some 12, op := Go.Op.binOp Go.BinOp.gtr 3 (Go.Operand.tmp 11) (Go.Operand.const (Go.Value.int Go.IntKind.i64 0)) 3, type := 4, pos := "load.go:34", after := #[⟨0, .data⟩], guard := none }) (v := ?vb2) rfl (by kernel_rfl) (by kernel_rfl) (by kernel_rfl) (fun _ _ _ h => h) (Or.inl ⟨by rfl, ?rb2⟩) (by assumption) ?_
      case rb2 => (intro w hSw; (try dsimp only at hSw); (go_simp <;> with_reducible rfl))
      try simp only [Act.put, List.setIfInBounds_toArray, List.set_cons_zero, List.set_cons_succ]
      refine wpAnyH_take (i := 2) (oi := { dst := some 13, op := Go.Op.move (Go.Operand.tmp 12), type := 4, pos := "load.go:34", after := #[⟨1, .data⟩], guard := none }) (v := ?vb3) rfl (by kernel_rfl) (by kernel_rfl) (by kernel_rfl) (fun _ _ _ h => h) (Or.inl ⟨by rfl, ?rb3⟩) (by assumption) ?_
      case rb3 => (intro w hSw; (try dsimp only at hSw); (go_simp <;> with_reducible rfl))
      try simp only [Act.put, List.setIfInBounds_toArray, List.set_cons_zero, List.set_cons_succ]
      refine wpAnyH_take (i := 3) (oi := { dst := some 14, op := Go.Op.move (Go.Operand.tmp 0), type := 25, pos := "load.go:34", after := #[⟨2, .guard⟩], guard := some (2, true) }) (v := ?vb4) rfl (by kernel_rfl) (by kernel_rfl) (by kernel_rfl) (fun _ _ _ h => h) (Or.inl ⟨by rfl, ?rb4⟩) (by assumption) ?_
      case rb4 => (intro w hSw; (try dsimp only at hSw); (go_simp <;> with_reducible rfl))
      try simp only [Act.put, List.setIfInBounds_toArray, List.set_cons_zero, List.set_cons_succ]
      refine wpAnyH_take (i := 4) (oi := { dst := some 15, op := Go.Op.nilCheck (Go.Operand.tmp 14), type := 0, pos := "load.go:34", after := #[⟨3, .data⟩, ⟨2, .guard⟩], guard := some (2, true) }) (v := ?vb5) rfl (by kernel_rfl) (by kernel_rfl) (by kernel_rfl) (fun _ _ _ h => h) (Or.inl ⟨by rfl, ?rb5⟩) (by assumption) ?_
      case rb5 => (intro w hSw; (try dsimp only at hSw); (go_simp <;> with_reducible rfl))
      try simp only [Act.put, List.setIfInBounds_toArray, List.set_cons_zero, List.set_cons_succ]
      refine wpAnyH_take (i := 5) (oi := { dst := some 16, op := Go.Op.fieldAddr 69 (Go.Operand.tmp 15) 0, type := 0, pos := "load.go:34", after := #[⟨4, .data⟩, ⟨2, .guard⟩], guard := some (2, true) }) (v := ?vb6) rfl (by kernel_rfl) (by kernel_rfl) (by kernel_rfl) (fun _ _ _ h => h) (Or.inl ⟨by rfl, ?rb6⟩) (by assumption) ?_
      case rb6 => (intro w hSw; (try dsimp only at hSw); (go_simp <;> with_reducible rfl))
      try simp only [Act.put, List.setIfInBounds_toArray, List.set_cons_zero, List.set_cons_succ]
      refine wpAnyH_take (i := 6) (oi := { dst := some 17, op := Go.Op.load 37 (Go.Operand.tmp 16), type := 37, pos := "load.go:34", after := #[⟨5, .data⟩, ⟨2, .guard⟩], guard := some (2, true) }) (v := ?vb7) rfl (by kernel_rfl) (by kernel_rfl) (by kernel_rfl) (fun _ _ _ h => h) (Or.inl ⟨by rfl, ?rb7⟩) (by assumption) ?_
      case rb7 => (intro w hSw; (try dsimp only at hSw); (go_simp <;> with_reducible rfl))
      try simp only [Act.put, List.setIfInBounds_toArray, List.set_cons_zero, List.set_cons_succ]
      refine wpAnyH_take (i := 7) (oi := { dst := some 18, op := Go.Op.move (Go.Operand.tmp 5), type := 3, pos := "load.go:34", after := #[⟨2, .guard⟩], guard := some (2, true) }) (v := ?vb8) rfl (by kernel_rfl) (by kernel_rfl) (by kernel_rfl) (fun _ _ _ h => h) (Or.inl ⟨by rfl, ?rb8⟩) (by assumption) ?_
      case rb8 => (intro w hSw; (try dsimp only at hSw); (go_simp <;> with_reducible rfl))
      try simp only [Act.put, List.setIfInBounds_toArray, List.set_cons_zero, List.set_cons_succ]
      refine wpAnyH_take (i := 8) (oi := { dst := some 19, op := Go.Op.binOp Go.BinOp.sub 3 (Go.Operand.tmp 18) (Go.Operand.const (Go.Value.int Go.IntKind.i64 1)) 3, type := 3, pos := "load.go:34", after := #[⟨7, .data⟩, ⟨2, .guard⟩], guard := some (2, true) }) (v := ?vb9) rfl (by kernel_rfl) (by kernel_rfl) (by kernel_rfl) (fun _ _ _ h => h) (Or.inl ⟨by rfl, ?rb9⟩) (by assumption) ?_
      case rb9 => (intro w hSw; (try dsimp only at hSw); (go_simp <;> with_reducible rfl))
      try simp only [Act.put, List.setIfInBounds_toArray, List.set_cons_zero, List.set_cons_succ]
      refine wpAnyH_take (i := 9) (oi := { dst := some 20, op := Go.Op.indexAddr 37 (Go.Operand.tmp 17) (Go.Operand.tmp 19), type := 0, pos := "load.go:34", after := #[⟨6, .data⟩, ⟨8, .data⟩, ⟨2, .guard⟩], guard := some (2, true) }) (v := ?vb10) rfl (by kernel_rfl) (by kernel_rfl) (by kernel_rfl) (fun _ _ _ h => h) (Or.inl ⟨by rfl, ?rb10⟩) (by assumption) ?_
      case rb10 => (intro w hSw; (try dsimp only at hSw); (go_simp <;> with_reducible rfl))
      try simp only [Act.put, List.setIfInBounds_toArray, List.set_cons_zero, List.set_cons_succ]
      refine wpAnyH_take (i := 10) (oi := { dst := some 21, op := Go.Op.load 42 (Go.Operand.tmp 20), type := 42, pos := "load.go:34", after := #[⟨9, .data⟩, ⟨2, .guard⟩], guard := some (2, true) }) (v := ?vb11) rfl (by kernel_rfl) (by kernel_rfl) (by kernel_rfl) (fun _ _ _ h => h) (Or.inl ⟨by rfl, ?rb11⟩) (by assumption) ?_
      case rb11 => (intro w hSw; (try dsimp only at hSw); (go_simp <;> with_reducible rfl))
      try simp only [Act.put, List.setIfInBounds_toArray, List.set_cons_zero, List.set_cons_succ]
      refine wpAnyH_take (i := 11) (oi := { dst := some 22, op := Go.Op.load 42 (Go.Operand.tmp 3), type := 42, pos := "load.go:34", after := #[⟨2, .guard⟩], guard := some (2, true) }) (v := ?vb12) rfl (by kernel_rfl) (by kernel_rfl) (by kernel_rfl) (fun _ _ _ h => h) (Or.inl ⟨by rfl, ?rb12⟩) (by assumption) ?_
      case rb12 => (intro w hSw; (try dsimp only at hSw); (go_simp <;> with_reducible rfl))
      try simp only [Act.put, List.setIfInBounds_toArray, List.set_cons_zero, List.set_cons_succ]
      refine wpAnyH_ready (rs := [12]) (by kernel_rfl) (by simp) ?_
      refine AllReadyH.cons (o := { dst := some 23, op := Go.Op.call { callee := Go.Callee.value (Go.Operand.func 55), args := #[Go.Operand.tmp 21, Go.Operand.tmp 22], argTypes := #[42, 42] }, type := 3, pos := "load.go:34", after := #[⟨10, .data⟩, ⟨11, .data⟩, ⟨2, .chain⟩, ⟨2, .guard⟩], guard := some (2, true) }) rfl (fun K hK => ?_) AllReadyH.nil
      go_simp
      go_at_call 55
      refine (HCX.out _ (HGW.out.trans h0.1)).mono ?_
      rintro e w9 ⟨rfl, hgN⟩
      first | refine hK.out _ _ ?sb13 (fun h13 => ?_) | (go_wp2_with fail; refine hK.out _ _ ?sb13 (fun h13 => ?_))
      case sb13 => ((try dsimp only); (exact HX.out _ _ hgN h0))
      clear hK K h0
      try simp only [Act.put, List.setIfInBounds_toArray, List.set_cons_zero, List.set_cons_succ]
      refine wpAnyH_take (i := 13) (oi := { dst := some 24, op := Go.Op.binOp Go.BinOp.geq 3 (Go.Operand.tmp 23) (Go.Operand.const (Go.Value.int Go.IntKind.i64 0)) 3, type := 4, pos := "load.go:34", after := #[⟨12, .data⟩, ⟨2, .guard⟩], guard := some (2, true) }) (v := ?vb14) rfl (by kernel_rfl) (by kernel_rfl) (by kernel_rfl) (fun _ _ _ h => h) (Or.inl ⟨by rfl, ?rb14⟩) (by assumption) ?_
      case rb14 => (intro w hSw; (try dsimp only at hSw); (go_simp <;> with_reducible rfl))
      try simp only [Act.put, List.setIfInBounds_toArray, List.set_cons_zero, List.set_cons_succ]
      refine wpAnyH_take (i := 14) (oi := { dst := some 25, op := Go.Op.pick (Go.Operand.tmp 13) (Go.Operand.tmp 24) (Go.Operand.const (Go.Value.bool false)), type := 4, pos := "load.go:34", after := #[⟨2, .data⟩, ⟨13, .data⟩], guard := none }) (v := ?vb15) rfl (by kernel_rfl) (by kernel_rfl) (by kernel_rfl) (fun _ _ _ h => h) (Or.inl ⟨by rfl, ?rb15⟩) (by assumption) ?_
      case rb15 => (intro w hSw; (try dsimp only at hSw); (go_simp <;> with_reducible rfl))
      try simp only [Act.put, List.setIfInBounds_toArray, List.set_cons_zero, List.set_cons_succ]
      refine wpAnyH_take (i := 15) (oi := { dst := some 26, op := Go.Op.move (Go.Operand.tmp 25), type := 4, pos := "load.go:34", after := #[⟨14, .data⟩, ⟨12, .chain⟩], guard := none }) (v := ?vb16) rfl (by kernel_rfl) (by kernel_rfl) (by kernel_rfl) (fun _ _ _ h => h) (Or.inl ⟨by rfl, ?rb16⟩) (by assumption) ?_
      case rb16 => (intro w hSw; (try dsimp only at hSw); (go_simp <;> with_reducible rfl))
      try simp only [Act.put, List.setIfInBounds_toArray, List.set_cons_zero, List.set_cons_succ]
      refine wpAnyH_take (i := 16) (oi := { dst := some 27, op := Go.Op.move (Go.Operand.tmp 0), type := 25, pos := "load.go:34", after := #[⟨15, .guard⟩], guard := some (15, false) }) (v := undef) rfl (by kernel_rfl) (by kernel_rfl) (by kernel_rfl) (fun _ _ _ h => h) (Or.inr ⟨by rfl, rfl⟩) (by assumption) ?_
      try simp only [Act.put, List.setIfInBounds_toArray, List.set_cons_zero, List.set_cons_succ]
      refine wpAnyH_take (i := 17) (oi := { dst := some 28, op := Go.Op.fieldAddr 42 (Go.Operand.tmp 3) 0, type := 0, pos := "load.go:34", after := #[⟨15, .guard⟩], guard := some (15, false) }) (v := undef) rfl (by kernel_rfl) (by kernel_rfl) (by kernel_rfl) (fun _ _ _ h => h) (Or.inr ⟨by rfl, rfl⟩) (by assumption) ?_
      try simp only [Act.put, List.setIfInBounds_toArray, List.set_cons_zero, List.set_cons_succ]
      refine wpAnyH_take (i := 18) (oi := { dst := some 29, op := Go.Op.load 3 (Go.Operand.tmp 28), type := 3, pos := "load.go:34", after := #[⟨17, .data⟩, ⟨15, .guard⟩], guard := some (15, false) }) (v := undef) rfl (by kernel_rfl) (by kernel_rfl) (by kernel_rfl) (fun _ _ _ h => h) (Or.inr ⟨by rfl, rfl⟩) (by assumption) ?_
      try simp only [Act.put, List.setIfInBounds_toArray, List.set_cons_zero, List.set_cons_succ]
      refine wpAnyH_take (i := 19) (oi := { dst := some 30, op := Go.Op.call { callee := Go.Callee.value (Go.Operand.func 56), args := #[Go.Operand.tmp 27, Go.Operand.tmp 29], argTypes := #[25, 3] }, type := 4, pos := "load.go:34", after := #[⟨16, .data⟩, ⟨18, .data⟩, ⟨15, .chain⟩, ⟨15, .guard⟩], guard := some (15, false) }) (v := undef) rfl (by kernel_rfl) (by kernel_rfl) (by kernel_rfl) (fun _ _ _ h => h) (Or.inr ⟨by rfl, rfl⟩) (by assumption) ?_
      try simp only [Act.put, List.setIfInBounds_toArray, List.set_cons_zero, List.set_cons_succ]
      refine wpAnyH_take (i := 20) (oi := { dst := some 31, op := Go.Op.unOp Go.UnOp.not 4 (Go.Operand.tmp 30), type := 4, pos := "load.go:34", after := #[⟨19, .data⟩, ⟨15, .guard⟩], guard := some (15, false) }) (v := undef) rfl (by kernel_rfl) (by kernel_rfl) (by kernel_rfl) (fun _ _ _ h => h) (Or.inr ⟨by rfl, rfl⟩) (by assumption) ?_
      try simp only [Act.put, List.setIfInBounds_toArray, List.set_cons_zero, List.set_cons_succ]
      refine wpAnyH_take (i := 21) (oi := { dst := some 32, op := Go.Op.pick (Go.Operand.tmp 26) (Go.Operand.const (Go.Value.bool true)) (Go.Operand.tmp 31), type := 4, pos := "load.go:34", after := #[⟨15, .data⟩, ⟨20, .data⟩], guard := none }) (v := ?vb17) rfl (by kernel_rfl) (by kernel_rfl) (by kernel_rfl) (fun _ _ _ h => h) (Or.inl ⟨by rfl, ?rb17⟩) (by assumption) ?_
      case rb17 => (intro w hSw; (try dsimp only at hSw); (go_simp <;> with_reducible rfl))
      try simp only [Act.put, List.setIfInBounds_toArray, List.set_cons_zero, List.set_cons_succ]
      refine wpAnyH_done (by kernel_rfl) ?_ _
      clear HX
      have HG3 := Lib.hid (HGW.out.trans h13.1)
      clear h13 c0 c2 x0 x1 x2 x3
      go_wp2
      go_ret
      exact ⟨by rw [HEQ.out]; rfl, HG3.out⟩
end Go.Proofs.YtmgpnpmdmelnkaaGreatDoor
