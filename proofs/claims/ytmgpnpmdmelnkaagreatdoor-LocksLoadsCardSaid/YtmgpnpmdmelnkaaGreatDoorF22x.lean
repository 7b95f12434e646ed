import Derived.Test.YtmgpnpmdmelnkaaGreatDoorK5
import Derived.WalkKit
import Derived.ProofKit
import Derived.LoopTactic
import Derived.Outline
import Derived.WalkSpells
import Derived.WalkLawsBesides
import Derived.Lib.Hide
import Derived.Deep.LoopGhost
import Derived.Deep.QuietTactic
import Derived.BigQuiet
import Derived.ShutString
import Derived.IntWalk
import Derived.Lib.MinMax
import Derived.Deep.AppendLies
import Derived.Deep.RegionWith
import Derived.Deep.RegionHeld3
import Derived.Deep.Cut
import Derived.Deep.CutRange
import Derived.Deep.CutBlock
namespace Go.Proofs.YtmgpnpmdmelnkaaGreatDoor
open Go.ChangeShapes Go.WideShapes Go.ChangeAt Go.RowKit
set_option linter.unusedVariables false
set_option linter.unusedSimpArgs false
def cntR (s : Int) (L : List RL) : Int := ((L.filter (fun y => decide (y.ses = s))).length : Int)
/-- The document's Acquire: what is held, what waits, the last token, the lock, its place, the error's number. -/
def acqR (H W : List RL) (last : Int) (x : RL) (wait : Bool) : List RL × List RL × Int × RL × Int × Int :=
  if 0 ≤ (findR H W x.ses x.l).2 then
    if (findR H W x.ses x.l).1.ex ≠ x.ex then (H, W, last, zRL, 0, 16) else (H, W, last, (findR H W x.ses x.l).1, (findR H W x.ses x.l).2, 0)
  else if 7 < cntR x.ses (H ++ W) then (H, W, last, zRL, 0, 17)
  else if mayR H W (x.tokd 0) = true then
    if last = 18446744073709551615 then (H, W, last, zRL, 0, 19) else (H ++ [x.tokd (last + 1)], W, last + 1, x.tokd (last + 1), 0, 0)
  else if wait = false then (H, W, last, zRL, 0, 16)
  else if 7 < (W.length : Int) then (H, W, last, zRL, 0, 17)
  else (H, W ++ [x.tokd 0], last, x.tokd 0, (W.length : Int) + 1, 0)
set_option maxRecDepth 100000 in
set_option maxHeartbeats 8000000 in
theorem refAcquire_found {bH bW : Nat} {vH vW : Value} {last : Int} (H W : List RL) (x : RL) (wait : Bool) (w : World) (hH : RRow22 w bH vH H) (hW : RRow22 w bW vW W) (hx : x.lies w) (hl : H.length + W.length ≤ 400) (ht : 0 ≤ last ∧ last ≤ 18446744073709551615) (hi0 : 0 ≤ (findR H W x.ses x.l).2) :
    Calls Tryz.prog 24 #[.agg #[vH, vW, .int .u64 last], .agg #[.int .i64 x.ses, .slice x.a x.l.length x.c, .bool x.ex, .int .u64 x.tok], .bool wait] w fun e w' => ∃ v1 v2, e = .returned (.tuple #[.agg #[v1, v2, .int .u64 (acqR H W last x wait).2.2.1], .agg #[.int .i64 (acqR H W last x wait).2.2.2.1.ses, .slice (acqR H W last x wait).2.2.2.1.a (acqR H W last x wait).2.2.2.1.l.length (acqR H W last x wait).2.2.2.1.c, .bool (acqR H W last x wait).2.2.2.1.ex, .int .u64 (acqR H W last x wait).2.2.2.1.tok], .int .i64 (acqR H W last x wait).2.2.2.2.1, .int .i64 (acqR H W last x wait).2.2.2.2.2]) ∧ RRow22 w' 0 v1 (acqR H W last x wait).1 ∧ RRow22 w' 0 v2 (acqR H W last x wait).2.1 ∧ Gr w w' := by
  obtain ⟨q, hq⟩ : ∃ q, acqR H W last x wait = q := ⟨_, rfl⟩
  rw [hq]
  obtain ⟨⟨f, i⟩, hfi⟩ : ∃ q, findR H W x.ses x.l = q := ⟨_, rfl⟩
  rw [hfi] at hi0
  unfold acqR at hq
  rw [hfi] at hq
  obtain ⟨aH, cH, rfl, hsH⟩ := ownsRow_slice hH.1
  obtain ⟨aW, cW, rfl, hsW⟩ := ownsRow_slice hW.1
  have HRH := Lib.hid hH
  have HRW := Lib.hid hW
  have HX := Lib.hid hx
  have HT := Lib.hid ht
  have HFI := Lib.hid hfi
  have N12 := Lib.hid (show (Value.slice aH H.length cH).ownBlock ≠ some (w.heap.size + 1 + 1) from fun e => by have := (hH.1.lt _ e).2; omega)
  have N13 := Lib.hid (show (Value.slice aH H.length cH).ownBlock ≠ some (w.heap.size + 1 + 1 + 1) from fun e => by have := (hH.1.lt _ e).2; omega)
  have N22 := Lib.hid (show (Value.slice aW W.length cW).ownBlock ≠ some (w.heap.size + 1 + 1) from fun e => by have := (hW.1.lt _ e).2; omega)
  have N23 := Lib.hid (show (Value.slice aW W.length cW).ownBlock ≠ some (w.heap.size + 1 + 1 + 1) from fun e => by have := (hW.1.lt _ e).2; omega)
  have z1 : ∀ (w : World) (o : Obj), (w.alloc o).heap.size = w.heap.size + 1 := fun w o => by simp
  obtain ⟨xs, xl, xa, xc, xe, xk⟩ := x
  simp only at hi0 hq HFI HX ⊢
  have QB0 := Lib.hid ((((Blk.new w #[.slice aH H.length cH, .slice aW W.length cW, .int .u64 last] 29).gr ((Gr.refl _).alloc (.cells #[.int .i64 xs, .slice xa xl.length xc, .bool xe, .int .u64 xk] 71))).gr ((Gr.refl _).alloc (.cells #[.slice none 0 0, .slice none 0 0, .int .u64 0] 29))).gr ((Gr.refl _).alloc (.cells #[.int .i64 0, .slice none 0 0, .bool false, .int .u64 0] 71)))
  have QX0 := Lib.hid (((Blk.new (w.alloc (.cells #[.slice aH H.length cH, .slice aW W.length cW, .int .u64 last] 29)) #[.int .i64 xs, .slice xa xl.length xc, .bool xe, .int .u64 xk] 71).gr ((Gr.refl _).alloc (.cells #[.slice none 0 0, .slice none 0 0, .int .u64 0] 29))).gr ((Gr.refl _).alloc (.cells #[.int .i64 0, .slice none 0 0, .bool false, .int .u64 0] 71)))
  have Q20 := Lib.hid ((Blk.new ((w.alloc (.cells #[.slice aH H.length cH, .slice aW W.length cW, .int .u64 last] 29)).alloc (.cells #[.int .i64 xs, .slice xa xl.length xc, .bool xe, .int .u64 xk] 71)) #[.slice none 0 0, .slice none 0 0, .int .u64 0] 29).gr ((Gr.refl _).alloc (.cells #[.int .i64 0, .slice none 0 0, .bool false, .int .u64 0] 71)))
  have Q30 := Lib.hid (Blk.new (((w.alloc (.cells #[.slice aH H.length cH, .slice aW W.length cW, .int .u64 last] 29)).alloc (.cells #[.int .i64 xs, .slice xa xl.length xc, .bool xe, .int .u64 xk] 71)).alloc (.cells #[.slice none 0 0, .slice none 0 0, .int .u64 0] 29)) #[.int .i64 0, .slice none 0 0, .bool false, .int .u64 0] 71)
  have QG0 := Lib.hid (((((Gr.refl w).alloc (.cells #[.slice aH H.length cH, .slice aW W.length cW, .int .u64 last] 29)).alloc (.cells #[.int .i64 xs, .slice xa xl.length xc, .bool xe, .int .u64 xk] 71)).alloc (.cells #[.slice none 0 0, .slice none 0 0, .int .u64 0] 29)).alloc (.cells #[.int .i64 0, .slice none 0 0, .bool false, .int .u64 0] 71))
  simp only [z1] at QX0 Q20 Q30
  clear z1 hH hW hx ht hfi
  go_enter Tryz.func24, Tryz.ntmps24
  go_upto_region 1 with fail
  generalize (((w.alloc (.cells #[.slice aH H.length cH, .slice aW W.length cW, .int .u64 last] 29)).alloc (.cells #[.int .i64 xs, .slice xa xl.length xc, .bool xe, .int .u64 xk] 71)).alloc (.cells #[.slice none 0 0, .slice none 0 0, .int .u64 0] 29)).alloc (.cells #[.int .i64 0, .slice none 0 0, .bool false, .int .u64 0] 71) = w1 at *
  have x3 := QX0.out.cell (i := 3) rfl
  have k3 := QX0.out.free 3
  have QBa := Lib.hid (QB0.out.other (c := w.heap.size + 1) (by omega) 3 (.int .u64 0))
  have QXa : Hid (Blk (w1.setCell ⟨w.heap.size + 1, 3, none⟩ (.int .u64 0)) (w.heap.size + 1) #[.int .i64 xs, .slice xa xl.length xc, .bool xe, .int .u64 0] 71) := Lib.hid (QX0.out.set 3 _)
  have Q2a := Lib.hid (Q20.out.other (c := w.heap.size + 1) (by omega) 3 (.int .u64 0))
  have Q3a := Lib.hid (Q30.out.other (c := w.heap.size + 1) (by omega) 3 (.int .u64 0))
  have QGa := Lib.hid (QG0.out.setCell (p := ⟨w.heap.size + 1, 3, none⟩) (Nat.le_succ _) (.int .u64 0))
  go_upto_region 2 with fail
  generalize w1.setCell ⟨w.heap.size + 1, 3, none⟩ (.int .u64 0) = w2 at *
  clear x3 k3 QB0 QX0 Q20 Q30 QG0
  have b0 := QBa.out.cell (i := 0) rfl
  have b1 := QBa.out.cell (i := 1) rfl
  have b2 := QBa.out.cell (i := 2) rfl
  have x0 := QXa.out.cell (i := 0) rfl
  have x1 := QXa.out.cell (i := 1) rfl
  go_wp2_with fail
  refine (refFind_any H W xs xl xa xc w2 (HRH.out.gr QGa.out) (HRW.out.gr QGa.out) (HX.out.gr QGa.out : Strs w2 xa xl) (by omega)).mono ?_
  rw [HFI.out]
  rintro e w3 ⟨rfl, hg3⟩
  have hga := hg3.trans ((Gr.refl w3).alloc (.cells #[.int .i64 f.ses, .slice f.a f.l.length f.c, .bool f.ex, .int .u64 f.tok] 71))
  have QBb := Lib.hid (QBa.out.gr hga)
  have QXb := Lib.hid (QXa.out.gr hga)
  have Q2b := Lib.hid (Q2a.out.gr hga)
  have Q3b := Lib.hid (Q3a.out.gr hga)
  have QGb := Lib.hid (QGa.out.trans hga)
  have QFb := Lib.hid (Blk.new w3 #[.int .i64 f.ses, .slice f.a f.l.length f.c, .bool f.ex, .int .u64 f.tok] 71)
  have hcf : w.heap.size + 1 + 1 + 1 < w3.heap.size := by have := (Q3a.out.gr hg3).lt; omega
  clear hg3 hga b0 b1 b2 x0 x1 QBa QXa Q2a Q3a QGa
  go_upto_region 3 with fail
  generalize w3.alloc (.cells #[.int .i64 f.ses, .slice f.a f.l.length f.c, .bool f.ex, .int .u64 f.tok] 71) = w4 at *
  generalize w3.heap.size = cf at *
  rw [if_pos hi0] at hq
  have hld : decide (0 ≤ i) = true := decide_eq_true hi0
  have HQ := Lib.hid hq
  clear hq hi0
  have y2 := QFb.out.cell (i := 2) rfl
  have x2 := QXb.out.cell (i := 2) rfl
  by_cases hex : f.ex = xe
  · have HE := Lib.hid hex
    have e1 : (f.ex == xe) = true := by simpa using hex
    clear hex
    go_upto_region 6 with fail
    have U0 := QBb
    have U1 := QFb
    have R1 := Lib.hid (ownsRow_gr QGb.out (ownsRow_lower HRH.out.1 (Nat.zero_le _)))
    have R2 := Lib.hid (ownsRow_gr QGb.out (ownsRow_lower HRW.out.1 (Nat.zero_le _)))
    have HS9 : Hid ((fun w0 => w0.cell? ⟨w.heap.size, 0, none⟩ = some (.slice aH H.length cH) ∧ w0.cell? ⟨w.heap.size, 1, none⟩ = some (.slice aW W.length cW) ∧ w0.cell? ⟨w.heap.size, 2, none⟩ = some (.int .u64 last) ∧ w0.cell? ⟨cf, 0, none⟩ = some (.int .i64 f.ses) ∧ w0.cell? ⟨cf, 1, none⟩ = some (.slice f.a f.l.length f.c) ∧ w0.cell? ⟨cf, 2, none⟩ = some (.bool f.ex) ∧ w0.cell? ⟨cf, 3, none⟩ = some (.int .u64 f.tok)) w4.drew) := Lib.hid (have G9 := (Gr.refl w4).drew; ⟨(U0.out.gr G9).cell (i := 0) rfl, (U0.out.gr G9).cell (i := 1) rfl, (U0.out.gr G9).cell (i := 2) rfl, (U1.out.gr G9).cell (i := 0) rfl, (U1.out.gr G9).cell (i := 1) rfl, (U1.out.gr G9).cell (i := 2) rfl, (U1.out.gr G9).cell (i := 3) rfl⟩)
    have U0 := Lib.hid (U0.out.gr (Gr.refl w4).drew)
    have U1 := Lib.hid (U1.out.gr (Gr.refl w4).drew)
    have Q2D := Lib.hid (Q2b.out.gr (Gr.refl w4).drew)
    have Q3D := Lib.hid (Q3b.out.gr (Gr.refl w4).drew)
    have R1 := Lib.hid (ownsRow_gr (Gr.refl w4).drew R1.out)
    have R2 := Lib.hid (ownsRow_gr (Gr.refl w4).drew R2.out)
    have HG := Lib.hid (QGb.out.trans (Gr.refl w4).drew)
    go_wp2_with fail
    refine wp_region_held_drew (S := (fun w0 => w0.cell? ⟨w.heap.size, 0, none⟩ = some (.slice aH H.length cH) ∧ w0.cell? ⟨w.heap.size, 1, none⟩ = some (.slice aW W.length cW) ∧ w0.cell? ⟨w.heap.size, 2, none⟩ = some (.int .u64 last) ∧ w0.cell? ⟨cf, 0, none⟩ = some (.int .i64 f.ses) ∧ w0.cell? ⟨cf, 1, none⟩ = some (.slice f.a f.l.length f.c) ∧ w0.cell? ⟨cf, 2, none⟩ = some (.bool f.ex) ∧ w0.cell? ⟨cf, 3, none⟩ = some (.int .u64 f.tok))) (by kernel_rfl) ?invr6 (fun h0 => ?_)
    case invr6 => ((try dsimp only); (exact HS9.out))
    generalize w4.drew = w9 at *
    have q20 := Q2D.out.cell (i := 0) rfl
    have q21 := Q2D.out.cell (i := 1) rfl
    have q22 := Q2D.out.cell (i := 2) rfl
    have q30 := Q3D.out.cell (i := 0) rfl
    have q31 := Q3D.out.cell (i := 1) rfl
    have q32 := Q3D.out.cell (i := 2) rfl
    have q33 := Q3D.out.cell (i := 3) rfl
    have d20 := Q2D.out.free 0
    have d21 := Q2D.out.free 1
    have d22 := Q2D.out.free 2
    have d30 := Q3D.out.free 0
    have d31 := Q3D.out.free 1
    have d32 := Q3D.out.free 2
    have d33 := Q3D.out.free 3
    have A0 := Lib.hid (((U0.out.other (c := w.heap.size + 1 + 1) (by omega) 0 (.slice aH H.length cH)).other (c := w.heap.size + 1 + 1) (by omega) 1 (.slice aW W.length cW)).other (c := w.heap.size + 1 + 1) (by omega) 2 (.int .u64 last))
    have A1 := Lib.hid (((U1.out.other (c := w.heap.size + 1 + 1) (by omega) 0 (.slice aH H.length cH)).other (c := w.heap.size + 1 + 1) (by omega) 1 (.slice aW W.length cW)).other (c := w.heap.size + 1 + 1) (by omega) 2 (.int .u64 last))
    have B0 := Lib.hid ((((A0.out.other (c := w.heap.size + 1 + 1 + 1) (by omega) 0 (.int .i64 f.ses)).other (c := w.heap.size + 1 + 1 + 1) (by omega) 1 (.slice f.a f.l.length f.c)).other (c := w.heap.size + 1 + 1 + 1) (by omega) 2 (.bool f.ex)).other (c := w.heap.size + 1 + 1 + 1) (by omega) 3 (.int .u64 f.tok))
    have B1 := Lib.hid ((((A1.out.other (c := w.heap.size + 1 + 1 + 1) (by omega) 0 (.int .i64 f.ses)).other (c := w.heap.size + 1 + 1 + 1) (by omega) 1 (.slice f.a f.l.length f.c)).other (c := w.heap.size + 1 + 1 + 1) (by omega) 2 (.bool f.ex)).other (c := w.heap.size + 1 + 1 + 1) (by omega) 3 (.int .u64 f.tok))
    refine wpAnyH_take (i := 0) (oi := { dst := some 36, op := Go.Op.load 29 (Go.Operand.tmp 3), type := 29, pos := "ref.go:94", after := #[], guard := none }) (v := ?vr61) rfl (by kernel_rfl) (by kernel_rfl) (by kernel_rfl) (fun _ _ _ h => h) (Or.inl ⟨by rfl, ?rr61⟩) (by assumption) ?_
    case rr61 => (intro w hSw; (try dsimp only at hSw); (go_simp <;> with_reducible rfl))
    try simp only [Act.put, List.setIfInBounds_toArray, List.set_cons_zero, List.set_cons_succ]
    refine wpAnyH_take (i := 1) (oi := { dst := some 37, op := Go.Op.load 71 (Go.Operand.tmp 10), type := 71, pos := "ref.go:94", after := #[⟨3, .gcOnly .lateStores⟩], guard := none }) (v := ?vr62) rfl (by kernel_rfl) (by kernel_rfl) (by kernel_rfl) (fun _ _ _ h => h) (Or.inl ⟨by rfl, ?rr62⟩) (by assumption) ?_
    case rr62 => (intro w hSw; (try dsimp only at hSw); (go_simp <;> with_reducible rfl))
    try simp only [Act.put, List.setIfInBounds_toArray, List.set_cons_zero, List.set_cons_succ]
    refine wpAnyH_take (i := 2) (oi := { dst := some 38, op := Go.Op.move (Go.Operand.tmp 11), type := 3, pos := "ref.go:94", after := #[⟨4, .gcOnly .lateStores⟩], guard := none }) (v := ?vr63) rfl (by kernel_rfl) (by kernel_rfl) (by kernel_rfl) (fun _ _ _ h => h) (Or.inl ⟨by rfl, ?rr63⟩) (by assumption) ?_
    case rr63 => (intro w hSw; (try dsimp only at hSw); (go_simp <;> with_reducible rfl))
    try simp only [Act.put, List.setIfInBounds_toArray, List.set_cons_zero, List.set_cons_succ]
    refine wpAnyH_ready (rs := [3]) (by kernel_rfl) (by simp) ?_
    refine AllReadyH.cons (o := { dst := none, op := Go.Op.store 29 (Go.Operand.tmp 6) (Go.Operand.tmp 36), type := 0, pos := "ref.go:94", after := #[⟨0, .data⟩, ⟨0, .phase⟩, ⟨1, .textOnly .lateStores⟩, ⟨2, .textOnly .lateStores⟩], guard := none }) rfl (fun K hK => ?_) AllReadyH.nil
    go_simp
    skip
    first | refine hK.out _ _ ?sr64 (fun h4 => ?_) | (go_wp2_with fail; refine hK.out _ _ ?sr64 (fun h4 => ?_))
    case sr64 => ((try dsimp only); (exact ⟨A0.out.cell (i := 0) rfl, A0.out.cell (i := 1) rfl, A0.out.cell (i := 2) rfl, A1.out.cell (i := 0) rfl, A1.out.cell (i := 1) rfl, A1.out.cell (i := 2) rfl, A1.out.cell (i := 3) rfl⟩))
    clear hK K h0
    try simp only [Act.put, List.setIfInBounds_toArray, List.set_cons_zero, List.set_cons_succ]
    refine wpAnyH_ready (rs := [4]) (by kernel_rfl) (by simp) ?_
    refine AllReadyH.cons (o := { dst := none, op := Go.Op.store 71 (Go.Operand.tmp 7) (Go.Operand.tmp 37), type := 0, pos := "ref.go:94", after := #[⟨1, .data⟩, ⟨3, .chain⟩, ⟨0, .phase⟩, ⟨1, .phase⟩, ⟨2, .textOnly .lateStores⟩, ⟨3, .phase⟩], guard := none }) rfl (fun K hK => ?_) AllReadyH.nil
    go_simp
    skip
    first | refine hK.out _ _ ?sr65 (fun h5 => ?_) | (go_wp2_with fail; refine hK.out _ _ ?sr65 (fun h5 => ?_))
    case sr65 => ((try dsimp only); (exact ⟨B0.out.cell (i := 0) rfl, B0.out.cell (i := 1) rfl, B0.out.cell (i := 2) rfl, B1.out.cell (i := 0) rfl, B1.out.cell (i := 1) rfl, B1.out.cell (i := 2) rfl, B1.out.cell (i := 3) rfl⟩))
    clear hK K h4
    try simp only [Act.put, List.setIfInBounds_toArray, List.set_cons_zero, List.set_cons_succ]
    refine wpAnyH_take (i := 5) (oi := { dst := some 8, op := Go.Op.assign (Go.Operand.tmp 38), type := 3, pos := "ref.go:94", after := #[⟨2, .data⟩, ⟨4, .chain⟩, ⟨0, .phase⟩, ⟨1, .phase⟩, ⟨2, .phase⟩, ⟨3, .phase⟩, ⟨4, .phase⟩], guard := none }) (v := ?vr66) rfl (by kernel_rfl) (by kernel_rfl) (by kernel_rfl) (fun _ _ _ h => h) (Or.inl ⟨by rfl, ?rr66⟩) (by assumption) ?_
    case rr66 => (intro w hSw; (try dsimp only at hSw); (go_simp <;> with_reducible rfl))
    try simp only [Act.put, List.setIfInBounds_toArray, List.set_cons_zero, List.set_cons_succ]
    refine wpAnyH_take (i := 6) (oi := { dst := some 9, op := Go.Op.assign (Go.Operand.const (Go.Value.int Go.IntKind.i64 0)), type := 3, pos := "ref.go:94", after := #[⟨5, .chain⟩, ⟨0, .phase⟩, ⟨1, .phase⟩, ⟨2, .phase⟩, ⟨3, .phase⟩, ⟨4, .phase⟩, ⟨5, .phase⟩], guard := none }) (v := ?vr67) rfl (by kernel_rfl) (by kernel_rfl) (by kernel_rfl) (fun _ _ _ h => h) (Or.inl ⟨by rfl, ?rr67⟩) (by assumption) ?_
    case rr67 => (intro w hSw; (try dsimp only at hSw); (go_simp <;> with_reducible rfl))
    try simp only [Act.put, List.setIfInBounds_toArray, List.set_cons_zero, List.set_cons_succ]
    refine wpAnyH_done (by kernel_rfl) ?_ _
    go_wp2
    refine bodyPost_ret (v := .tuple #[.agg #[.slice aH H.length cH, .slice aW W.length cW, .int .u64 last], .agg #[.int .i64 f.ses, .slice f.a f.l.length f.c, .bool f.ex, .int .u64 f.tok], .int .i64 i, .int .i64 0]) (by simp [results, Tryz.results24, go_sem, q20, q21, q22, q30, q31, q32, q33, d20, d21, d22, d30, d31, d32, d33]; try rfl) rfl ?_
    rw [show q = (H, W, last, f, i, 0) by rw [← HQ.out, if_neg (by rw [HE.out]; simp)]]
    exact ⟨_, _, rfl, ⟨(ownsRow_setCell_other (a := ⟨w.heap.size + 1 + 1 + 1, 3, none⟩) (ownsRow_setCell_other (a := ⟨w.heap.size + 1 + 1 + 1, 2, none⟩) (ownsRow_setCell_other (a := ⟨w.heap.size + 1 + 1 + 1, 1, none⟩) (ownsRow_setCell_other (a := ⟨w.heap.size + 1 + 1 + 1, 0, none⟩) (ownsRow_setCell_other (a := ⟨w.heap.size + 1 + 1, 2, none⟩) (ownsRow_setCell_other (a := ⟨w.heap.size + 1 + 1, 1, none⟩) (ownsRow_setCell_other (a := ⟨w.heap.size + 1 + 1, 0, none⟩) R1.out N12.out _) N12.out _) N12.out _) N13.out _) N13.out _) N13.out _) N13.out _), fun x hx => (HRH.out.2 x hx).gr (((((((HG.out.setCell (p := ⟨w.heap.size + 1 + 1, 0, none⟩) (by simp; try omega) _).setCell (p := ⟨w.heap.size + 1 + 1, 1, none⟩) (by simp; try omega) _).setCell (p := ⟨w.heap.size + 1 + 1, 2, none⟩) (by simp; try omega) _).setCell (p := ⟨w.heap.size + 1 + 1 + 1, 0, none⟩) (by simp; try omega) _).setCell (p := ⟨w.heap.size + 1 + 1 + 1, 1, none⟩) (by simp; try omega) _).setCell (p := ⟨w.heap.size + 1 + 1 + 1, 2, none⟩) (by simp; try omega) _).setCell (p := ⟨w.heap.size + 1 + 1 + 1, 3, none⟩) (by simp; try omega) _)⟩, ⟨(ownsRow_setCell_other (a := ⟨w.heap.size + 1 + 1 + 1, 3, none⟩) (ownsRow_setCell_other (a := ⟨w.heap.size + 1 + 1 + 1, 2, none⟩) (ownsRow_setCell_other (a := ⟨w.heap.size + 1 + 1 + 1, 1, none⟩) (ownsRow_setCell_other (a := ⟨w.heap.size + 1 + 1 + 1, 0, none⟩) (ownsRow_setCell_other (a := ⟨w.heap.size + 1 + 1, 2, none⟩) (ownsRow_setCell_other (a := ⟨w.heap.size + 1 + 1, 1, none⟩) (ownsRow_setCell_other (a := ⟨w.heap.size + 1 + 1, 0, none⟩) R2.out N22.out _) N22.out _) N22.out _) N23.out _) N23.out _) N23.out _) N23.out _), fun x hx => (HRW.out.2 x hx).gr (((((((HG.out.setCell (p := ⟨w.heap.size + 1 + 1, 0, none⟩) (by simp; try omega) _).setCell (p := ⟨w.heap.size + 1 + 1, 1, none⟩) (by simp; try omega) _).setCell (p := ⟨w.heap.size + 1 + 1, 2, none⟩) (by simp; try omega) _).setCell (p := ⟨w.heap.size + 1 + 1 + 1, 0, none⟩) (by simp; try omega) _).setCell (p := ⟨w.heap.size + 1 + 1 + 1, 1, none⟩) (by simp; try omega) _).setCell (p := ⟨w.heap.size + 1 + 1 + 1, 2, none⟩) (by simp; try omega) _).setCell (p := ⟨w.heap.size + 1 + 1 + 1, 3, none⟩) (by simp; try omega) _)⟩, (((((((HG.out.setCell (p := ⟨w.heap.size + 1 + 1, 0, none⟩) (by simp; try omega) _).setCell (p := ⟨w.heap.size + 1 + 1, 1, none⟩) (by simp; try omega) _).setCell (p := ⟨w.heap.size + 1 + 1, 2, none⟩) (by simp; try omega) _).setCell (p := ⟨w.heap.size + 1 + 1 + 1, 0, none⟩) (by simp; try omega) _).setCell (p := ⟨w.heap.size + 1 + 1 + 1, 1, none⟩) (by simp; try omega) _).setCell (p := ⟨w.heap.size + 1 + 1 + 1, 2, none⟩) (by simp; try omega) _).setCell (p := ⟨w.heap.size + 1 + 1 + 1, 3, none⟩) (by simp; try omega) _)⟩
  · have HE := Lib.hid hex
    have e1 : (f.ex == xe) = false := by simpa using hex
    clear hex
    have b0 := QBb.out.cell (i := 0) rfl
    have b1 := QBb.out.cell (i := 1) rfl
    have b2 := QBb.out.cell (i := 2) rfl
    have q20 := Q2b.out.cell (i := 0) rfl
    have q21 := Q2b.out.cell (i := 1) rfl
    have q22 := Q2b.out.cell (i := 2) rfl
    have q30 := Q3b.out.cell (i := 0) rfl
    have q31 := Q3b.out.cell (i := 1) rfl
    have q32 := Q3b.out.cell (i := 2) rfl
    have q33 := Q3b.out.cell (i := 3) rfl
    have d20 := Q2b.out.free 0
    have d21 := Q2b.out.free 1
    have d22 := Q2b.out.free 2
    have d30 := Q3b.out.free 0
    have d31 := Q3b.out.free 1
    have d32 := Q3b.out.free 2
    have d33 := Q3b.out.free 3
    have R1 := Lib.hid (ownsRow_gr QGb.out (ownsRow_lower HRH.out.1 (Nat.zero_le _)))
    have R2 := Lib.hid (ownsRow_gr QGb.out (ownsRow_lower HRW.out.1 (Nat.zero_le _)))
    go_wp2
    refine bodyPost_ret (v := .tuple #[.agg #[.slice aH H.length cH, .slice aW W.length cW, .int .u64 last], .agg #[.int .i64 0, .slice none 0 0, .bool false, .int .u64 0], .int .i64 0, .int .i64 16]) (by simp [results, Tryz.results24, go_sem, q20, q21, q22, q30, q31, q32, q33, d20, d21, d22, d30, d31, d32, d33]; try rfl) rfl ?_
    rw [show q = (H, W, last, zRL, 0, 16) from by rw [← HQ.out, if_pos HE.out]]
    exact ⟨_, _, rfl, ⟨(ownsRow_setCell_other (a := ⟨w.heap.size + 1 + 1 + 1, 3, none⟩) (ownsRow_setCell_other (a := ⟨w.heap.size + 1 + 1 + 1, 2, none⟩) (ownsRow_setCell_other (a := ⟨w.heap.size + 1 + 1 + 1, 1, none⟩) (ownsRow_setCell_other (a := ⟨w.heap.size + 1 + 1 + 1, 0, none⟩) (ownsRow_setCell_other (a := ⟨w.heap.size + 1 + 1, 2, none⟩) (ownsRow_setCell_other (a := ⟨w.heap.size + 1 + 1, 1, none⟩) (ownsRow_setCell_other (a := ⟨w.heap.size + 1 + 1, 0, none⟩) R1.out N12.out _) N12.out _) N12.out _) N13.out _) N13.out _) N13.out _) N13.out _), fun x hx => (HRH.out.2 x hx).gr (((((((QGb.out.setCell (p := ⟨w.heap.size + 1 + 1, 0, none⟩) (by simp; try omega) _).setCell (p := ⟨w.heap.size + 1 + 1, 1, none⟩) (by simp; try omega) _).setCell (p := ⟨w.heap.size + 1 + 1, 2, none⟩) (by simp; try omega) _).setCell (p := ⟨w.heap.size + 1 + 1 + 1, 0, none⟩) (by simp; try omega) _).setCell (p := ⟨w.heap.size + 1 + 1 + 1, 1, none⟩) (by simp; try omega) _).setCell (p := ⟨w.heap.size + 1 + 1 + 1, 2, none⟩) (by simp; try omega) _).setCell (p := ⟨w.heap.size + 1 + 1 + 1, 3, none⟩) (by simp; try omega) _)⟩, ⟨(ownsRow_setCell_other (a := ⟨w.heap.size + 1 + 1 + 1, 3, none⟩) (ownsRow_setCell_other (a := ⟨w.heap.size + 1 + 1 + 1, 2, none⟩) (ownsRow_setCell_other (a := ⟨w.heap.size + 1 + 1 + 1, 1, none⟩) (ownsRow_setCell_other (a := ⟨w.heap.size + 1 + 1 + 1, 0, none⟩) (ownsRow_setCell_other (a := ⟨w.heap.size + 1 + 1, 2, none⟩) (ownsRow_setCell_other (a := ⟨w.heap.size + 1 + 1, 1, none⟩) (ownsRow_setCell_other (a := ⟨w.heap.size + 1 + 1, 0, none⟩) R2.out N22.out _) N22.out _) N22.out _) N23.out _) N23.out _) N23.out _) N23.out _), fun x hx => (HRW.out.2 x hx).gr (((((((QGb.out.setCell (p := ⟨w.heap.size + 1 + 1, 0, none⟩) (by simp; try omega) _).setCell (p := ⟨w.heap.size + 1 + 1, 1, none⟩) (by simp; try omega) _).setCell (p := ⟨w.heap.size + 1 + 1, 2, none⟩) (by simp; try omega) _).setCell (p := ⟨w.heap.size + 1 + 1 + 1, 0, none⟩) (by simp; try omega) _).setCell (p := ⟨w.heap.size + 1 + 1 + 1, 1, none⟩) (by simp; try omega) _).setCell (p := ⟨w.heap.size + 1 + 1 + 1, 2, none⟩) (by simp; try omega) _).setCell (p := ⟨w.heap.size + 1 + 1 + 1, 3, none⟩) (by simp; try omega) _)⟩, (((((((QGb.out.setCell (p := ⟨w.heap.size + 1 + 1, 0, none⟩) (by simp; try omega) _).setCell (p := ⟨w.heap.size + 1 + 1, 1, none⟩) (by simp; try omega) _).setCell (p := ⟨w.heap.size + 1 + 1, 2, none⟩) (by simp; try omega) _).setCell (p := ⟨w.heap.size + 1 + 1 + 1, 0, none⟩) (by simp; try omega) _).setCell (p := ⟨w.heap.size + 1 + 1 + 1, 1, none⟩) (by simp; try omega) _).setCell (p := ⟨w.heap.size + 1 + 1 + 1, 2, none⟩) (by simp; try omega) _).setCell (p := ⟨w.heap.size + 1 + 1 + 1, 3, none⟩) (by simp; try omega) _)⟩
set_option maxRecDepth 100000 in
set_option maxHeartbeats 8000000 in
theorem refAcquire_new {bH bW : Nat} {vH vW : Value} {last : Int} (H W : List RL) (x : RL) (wait : Bool) (w : World) (hH : RRow22 w bH vH H) (hW : RRow22 w bW vW W) (hx : x.lies w) (hl : H.length + W.length ≤ 400) (ht : 0 ≤ last ∧ last ≤ 18446744073709551615) (hi0 : ¬ 0 ≤ (findR H W x.ses x.l).2) :
    Calls Tryz.prog 24 #[.agg #[vH, vW, .int .u64 last], .agg #[.int .i64 x.ses, .slice x.a x.l.length x.c, .bool x.ex, .int .u64 x.tok], .bool wait] w fun e w' => ∃ v1 v2, e = .returned (.tuple #[.agg #[v1, v2, .int .u64 (acqR H W last x wait).2.2.1], .agg #[.int .i64 (acqR H W last x wait).2.2.2.1.ses, .slice (acqR H W last x wait).2.2.2.1.a (acqR H W last x wait).2.2.2.1.l.length (acqR H W last x wait).2.2.2.1.c, .bool (acqR H W last x wait).2.2.2.1.ex, .int .u64 (acqR H W last x wait).2.2.2.1.tok], .int .i64 (acqR H W last x wait).2.2.2.2.1, .int .i64 (acqR H W last x wait).2.2.2.2.2]) ∧ RRow22 w' 0 v1 (acqR H W last x wait).1 ∧ RRow22 w' 0 v2 (acqR H W last x wait).2.1 ∧ Gr w w' := by
  obtain ⟨q, hq⟩ : ∃ q, acqR H W last x wait = q := ⟨_, rfl⟩
  rw [hq]
  obtain ⟨⟨f, i⟩, hfi⟩ : ∃ q, findR H W x.ses x.l = q := ⟨_, rfl⟩
  rw [hfi] at hi0
  unfold acqR at hq
  rw [hfi] at hq
  obtain ⟨aH, cH, rfl, hsH⟩ := ownsRow_slice hH.1
  obtain ⟨aW, cW, rfl, hsW⟩ := ownsRow_slice hW.1
  have HRH := Lib.hid hH
  have HRW := Lib.hid hW
  have HX := Lib.hid hx
  have HT := Lib.hid ht
  have HFI := Lib.hid hfi
  have N12 := Lib.hid (show (Value.slice aH H.length cH).ownBlock ≠ some (w.heap.size + 1 + 1) from fun e => by have := (hH.1.lt _ e).2; omega)
  have N13 := Lib.hid (show (Value.slice aH H.length cH).ownBlock ≠ some (w.heap.size + 1 + 1 + 1) from fun e => by have := (hH.1.lt _ e).2; omega)
  have N22 := Lib.hid (show (Value.slice aW W.length cW).ownBlock ≠ some (w.heap.size + 1 + 1) from fun e => by have := (hW.1.lt _ e).2; omega)
  have N23 := Lib.hid (show (Value.slice aW W.length cW).ownBlock ≠ some (w.heap.size + 1 + 1 + 1) from fun e => by have := (hW.1.lt _ e).2; omega)
  have z1 : ∀ (w : World) (o : Obj), (w.alloc o).heap.size = w.heap.size + 1 := fun w o => by simp
  obtain ⟨xs, xl, xa, xc, xe, xk⟩ := x
  simp only at hi0 hq HFI HX ⊢
  have QB0 := Lib.hid ((((Blk.new w #[.slice aH H.length cH, .slice aW W.length cW, .int .u64 last] 29).gr ((Gr.refl _).alloc (.cells #[.int .i64 xs, .slice xa xl.length xc, .bool xe, .int .u64 xk] 71))).gr ((Gr.refl _).alloc (.cells #[.slice none 0 0, .slice none 0 0, .int .u64 0] 29))).gr ((Gr.refl _).alloc (.cells #[.int .i64 0, .slice none 0 0, .bool false, .int .u64 0] 71)))
  have QX0 := Lib.hid (((Blk.new (w.alloc (.cells #[.slice aH H.length cH, .slice aW W.length cW, .int .u64 last] 29)) #[.int .i64 xs, .slice xa xl.length xc, .bool xe, .int .u64 xk] 71).gr ((Gr.refl _).alloc (.cells #[.slice none 0 0, .slice none 0 0, .int .u64 0] 29))).gr ((Gr.refl _).alloc (.cells #[.int .i64 0, .slice none 0 0, .bool false, .int .u64 0] 71)))
  have Q20 := Lib.hid ((Blk.new ((w.alloc (.cells #[.slice aH H.length cH, .slice aW W.length cW, .int .u64 last] 29)).alloc (.cells #[.int .i64 xs, .slice xa xl.length xc, .bool xe, .int .u64 xk] 71)) #[.slice none 0 0, .slice none 0 0, .int .u64 0] 29).gr ((Gr.refl _).alloc (.cells #[.int .i64 0, .slice none 0 0, .bool false, .int .u64 0] 71)))
  have Q30 := Lib.hid (Blk.new (((w.alloc (.cells #[.slice aH H.length cH, .slice aW W.length cW, .int .u64 last] 29)).alloc (.cells #[.int .i64 xs, .slice xa xl.length xc, .bool xe, .int .u64 xk] 71)).alloc (.cells #[.slice none 0 0, .slice none 0 0, .int .u64 0] 29)) #[.int .i64 0, .slice none 0 0, .bool false, .int .u64 0] 71)
  have QG0 := Lib.hid (((((Gr.refl w).alloc (.cells #[.slice aH H.length cH, .slice aW W.length cW, .int .u64 last] 29)).alloc (.cells #[.int .i64 xs, .slice xa xl.length xc, .bool xe, .int .u64 xk] 71)).alloc (.cells #[.slice none 0 0, .slice none 0 0, .int .u64 0] 29)).alloc (.cells #[.int .i64 0, .slice none 0 0, .bool false, .int .u64 0] 71))
  simp only [z1] at QX0 Q20 Q30
  clear z1 hH hW hx ht hfi
  go_enter Tryz.func24, Tryz.ntmps24
  go_upto_region 1 with fail
  generalize (((w.alloc (.cells #[.slice aH H.length cH, .slice aW W.length cW, .int .u64 last] 29)).alloc (.cells #[.int .i64 xs, .slice xa xl.length xc, .bool xe, .int .u64 xk] 71)).alloc (.cells #[.slice none 0 0, .slice none 0 0, .int .u64 0] 29)).alloc (.cells #[.int .i64 0, .slice none 0 0, .bool false, .int .u64 0] 71) = w1 at *
  have x3 := QX0.out.cell (i := 3) rfl
  have k3 := QX0.out.free 3
  have QBa := Lib.hid (QB0.out.other (c := w.heap.size + 1) (by omega) 3 (.int .u64 0))
  have QXa : Hid (Blk (w1.setCell ⟨w.heap.size + 1, 3, none⟩ (.int .u64 0)) (w.heap.size + 1) #[.int .i64 xs, .slice xa xl.length xc, .bool xe, .int .u64 0] 71) := Lib.hid (QX0.out.set 3 _)
  have Q2a := Lib.hid (Q20.out.other (c := w.heap.size + 1) (by omega) 3 (.int .u64 0))
  have Q3a := Lib.hid (Q30.out.other (c := w.heap.size + 1) (by omega) 3 (.int .u64 0))
  have QGa := Lib.hid (QG0.out.setCell (p := ⟨w.heap.size + 1, 3, none⟩) (Nat.le_succ _) (.int .u64 0))
  go_upto_region 2 with fail
  generalize w1.setCell ⟨w.heap.size + 1, 3, none⟩ (.int .u64 0) = w2 at *
  clear x3 k3 QB0 QX0 Q20 Q30 QG0
  have b0 := QBa.out.cell (i := 0) rfl
  have b1 := QBa.out.cell (i := 1) rfl
  have b2 := QBa.out.cell (i := 2) rfl
  have x0 := QXa.out.cell (i := 0) rfl
  have x1 := QXa.out.cell (i := 1) rfl
  go_wp2_with fail
  refine (refFind_any H W xs xl xa xc w2 (HRH.out.gr QGa.out) (HRW.out.gr QGa.out) (HX.out.gr QGa.out : Strs w2 xa xl) (by omega)).mono ?_
  rw [HFI.out]
  rintro e w3 ⟨rfl, hg3⟩
  have hga := hg3.trans ((Gr.refl w3).alloc (.cells #[.int .i64 f.ses, .slice f.a f.l.length f.c, .bool f.ex, .int .u64 f.tok] 71))
  have QBb := Lib.hid (QBa.out.gr hga)
  have QXb := Lib.hid (QXa.out.gr hga)
  have Q2b := Lib.hid (Q2a.out.gr hga)
  have Q3b := Lib.hid (Q3a.out.gr hga)
  have QGb := Lib.hid (QGa.out.trans hga)
  have QFb := Lib.hid (Blk.new w3 #[.int .i64 f.ses, .slice f.a f.l.length f.c, .bool f.ex, .int .u64 f.tok] 71)
  have hcf : w.heap.size + 1 + 1 + 1 < w3.heap.size := by have := (Q3a.out.gr hg3).lt; omega
  clear hg3 hga b0 b1 b2 x0 x1 QBa QXa Q2a Q3a QGa
  go_upto_region 3 with fail
  generalize w3.alloc (.cells #[.int .i64 f.ses, .slice f.a f.l.length f.c, .bool f.ex, .int .u64 f.tok] 71) = w4 at *
  generalize w3.heap.size = cf at *
  obtain ⟨i0, hi, hz0, hz1, hz2⟩ : ∃ i0 : TypeInfo, Tryz.prog.info? 71 = some i0 ∧ i0.zero = some (.agg #[.int .i64 0, .slice none 0 0, .bool false, .int .u64 0]) ∧ i0.size = 4 ∧ i0.bytes = 48 := ⟨_, rfl, rfl, rfl, rfl⟩
  have hi0 : ¬ 0 ≤ i := by omega
  rw [if_neg hi0] at hq
  have hld : decide (0 ≤ i) = false := decide_eq_false hi0
  have HQ := Lib.hid hq
  have HPL := Lib.hid hi0
  have hsH' : aH = none ∧ H.length = 0 ∨ ∃ g, aH = some ⟨g, 0, none⟩ ∧ ∀ j u, (rcells encRL H)[j]? = some u → w.cell? ⟨g, j, none⟩ = some u := by
    rcases hsH with q9 | ⟨g, q1, _, q3⟩
    · exact .inl q9
    · exact .inr ⟨g, q1, q3⟩
  have hsW' : aW = none ∧ W.length = 0 ∨ ∃ g, aW = some ⟨g, 0, none⟩ ∧ ∀ j u, (rcells encRL W)[j]? = some u → w.cell? ⟨g, j, none⟩ = some u := by
    rcases hsW with q9 | ⟨g, q1, _, q3⟩
    · exact .inl q9
    · exact .inr ⟨g, q1, q3⟩
  have HSH := Lib.hid hsH'
  have HSW := Lib.hid hsW'
  clear hq hi0 hsH hsW hsH' hsW'
  go_upto_region 8 with fail
  have c0 := QBb.out.cell (i := 0) rfl
  have c1 := QBb.out.cell (i := 1) rfl
  have HXX : Hid (∀ w9 : World, Gr w4 w9 → (fun w9 => Gr w4 w9 ∧ w9.cell? ⟨w.heap.size, 0, none⟩ = some (.slice aH H.length cH) ∧ w9.cell? ⟨w.heap.size, 1, none⟩ = some (.slice aW W.length cW)) w9) := Lib.hid fun w9 hg => ⟨hg, hg.cell c0, hg.cell c1⟩
  have Hm1 := Lib.hid (World.ownsRow_made (base := w4.heap.size) (e := 71) (size := 4) w4.drew #[] 0 (Nat.le_refl _) (by unfold maxLen; omega) rfl)
  simp at Hm1
  go_wp2_with fail
  refine wp_region_held_drew (S := (fun w9 => Gr w4 w9 ∧ w9.cell? ⟨w.heap.size, 0, none⟩ = some (.slice aH H.length cH) ∧ w9.cell? ⟨w.heap.size, 1, none⟩ = some (.slice aW W.length cW))) (by kernel_rfl) ?invr8 (fun h0 => ?_)
  case invr8 => ((try dsimp only); (exact HXX.out _ (Gr.refl _).drew))
  refine wpAnyH_take (i := 1) (oi := { dst := some 40, op := Go.Op.fieldAddr 29 (Go.Operand.tmp 3) 0, type := 0, pos := "ref.go:97", after := #[], guard := none }) (v := ?vr81) rfl (by kernel_rfl) (by kernel_rfl) (by kernel_rfl) (fun _ _ _ h => h) (Or.inl ⟨by rfl, ?rr81⟩) (by assumption) ?_
  case rr81 => (intro w hSw; (try dsimp only at hSw); (go_simp <;> with_reducible rfl))
  try simp only [Act.put, List.setIfInBounds_toArray, List.set_cons_zero, List.set_cons_succ]
  refine wpAnyH_take (i := 2) (oi := { dst := some 41, op := Go.Op.load 27 (Go.Operand.tmp 40), type := 27, pos := "ref.go:97", after := #[⟨1, .data⟩], guard := none }) (v := ?vr82) rfl (by kernel_rfl) (by kernel_rfl) (by kernel_rfl) (fun _ _ _ h => h) (Or.inl ⟨by rfl, ?rr82⟩) (by assumption) ?_
  case rr82 => (intro w hSw; (try dsimp only at hSw); (go_simp <;> with_reducible rfl))
  try simp only [Act.put, List.setIfInBounds_toArray, List.set_cons_zero, List.set_cons_succ]
  refine wpAnyH_take (i := 4) (oi := { dst := some 43, op := Go.Op.fieldAddr 29 (Go.Operand.tmp 3) 1, type := 0, pos := "ref.go:97", after := #[], guard := none }) (v := ?vr83) rfl (by kernel_rfl) (by kernel_rfl) (by kernel_rfl) (fun _ _ _ h => h) (Or.inl ⟨by rfl, ?rr83⟩) (by assumption) ?_
  case rr83 => (intro w hSw; (try dsimp only at hSw); (go_simp <;> with_reducible rfl))
  try simp only [Act.put, List.setIfInBounds_toArray, List.set_cons_zero, List.set_cons_succ]
  refine wpAnyH_take (i := 5) (oi := { dst := some 44, op := Go.Op.load 27 (Go.Operand.tmp 43), type := 27, pos := "ref.go:97", after := #[⟨4, .data⟩], guard := none }) (v := ?vr84) rfl (by kernel_rfl) (by kernel_rfl) (by kernel_rfl) (fun _ _ _ h => h) (Or.inl ⟨by rfl, ?rr84⟩) (by assumption) ?_
  case rr84 => (intro w hSw; (try dsimp only at hSw); (go_simp <;> with_reducible rfl))
  try simp only [Act.put, List.setIfInBounds_toArray, List.set_cons_zero, List.set_cons_succ]
  refine wpAnyH_take (i := 8) (oi := { dst := some 47, op := Go.Op.move (Go.Operand.const (Go.Value.int Go.IntKind.i64 0)), type := 3, pos := "ref.go:97", after := #[], guard := none }) (v := ?vr85) rfl (by kernel_rfl) (by kernel_rfl) (by kernel_rfl) (fun _ _ _ h => h) (Or.inl ⟨by rfl, ?rr85⟩) (by assumption) ?_
  case rr85 => (intro w hSw; (try dsimp only at hSw); (go_simp <;> with_reducible rfl))
  try simp only [Act.put, List.setIfInBounds_toArray, List.set_cons_zero, List.set_cons_succ]
  refine wpAnyH_ready (rs := [0]) (by kernel_rfl) (by simp) ?_
  refine AllReadyH.cons (o := { dst := some 39, op := Go.Op.buildSlice 27 0 #[], type := 27, pos := "ref.go:97", after := #[], guard := none }) rfl (fun K hK => ?_) AllReadyH.nil
  go_simp
  skip
  first | refine hK.out _ _ ?sr86 (fun h6 => ?_) | (go_wp2_with fail; refine hK.out _ _ ?sr86 (fun h6 => ?_))
  case sr86 => ((try dsimp only); (first | exact HXX.out _ HG7.out | exact HXX.out _ HG5.out | exact HXX.out _ (h0.1.alloc _) | exact HXX.out _ h0.1))
  clear hK K h0
  try simp only [Act.put, List.setIfInBounds_toArray, List.set_cons_zero, List.set_cons_succ]
  refine wpAnyH_ready (rs := [3]) (by kernel_rfl) (by simp) ?_
  refine AllReadyH.cons (o := { dst := some 42, op := Go.Op.call { callee := Go.Callee.builtin Go.Builtin.append, args := #[Go.Operand.tmp 39, Go.Operand.tmp 41], argTypes := #[27, 27] }, type := 27, pos := "ref.go:97", after := #[⟨0, .data⟩, ⟨2, .data⟩], guard := none }) rfl (fun K hK => ?_) AllReadyH.nil
  refine step_append_row _ (by rfl) (.tmp 39) (.tmp 41) 27 (by rfl) w4.heap.size 71 i0 (.agg #[.int .i64 0, .slice none 0 0, .bool false, .int .u64 0]) 4 48 Tryz.underlying27 hi hz0 hz1 hz2 rfl (by decide) w4.heap.size (by rfl) (Hm1.out) aH H.length cH (rcells encRL H) (by rfl) (rcells_len encRL_len H) (by rcases HSH.out with q9 | ⟨g9, q1, q2⟩; exact .inl q9; exact .inr ⟨g9, q1, fun j u hj => h6.1.cell (QGb.out.cell (q2 j u hj))⟩) (rcells_one encRL_one H) (by unfold maxLen; omega) (by omega) h6.1.size _ rfl ?_
  intro g5 cap5 w5 hown5 hgrow5 hat5 hlt5
  have HG5 := Lib.hid (h6.1.append (Hm1.out) hgrow5)
  first | refine hK.out _ _ ?sr87 (fun h7 => ?_) | (go_wp2_with fail; refine hK.out _ _ ?sr87 (fun h7 => ?_))
  case sr87 => ((try dsimp only); (first | exact HXX.out _ HG7.out | exact HXX.out _ HG5.out | exact HXX.out _ (h6.1.alloc _) | exact HXX.out _ h6.1))
  clear hK K h6
  try simp only [Act.put, List.setIfInBounds_toArray, List.set_cons_zero, List.set_cons_succ]
  refine wpAnyH_ready (rs := [6]) (by kernel_rfl) (by simp) ?_
  refine AllReadyH.cons (o := { dst := some 45, op := Go.Op.call { callee := Go.Callee.builtin Go.Builtin.append, args := #[Go.Operand.tmp 42, Go.Operand.tmp 44], argTypes := #[27, 27] }, type := 27, pos := "ref.go:97", after := #[⟨3, .data⟩, ⟨5, .data⟩, ⟨3, .chain⟩], guard := none }) rfl (fun K hK => ?_) AllReadyH.nil
  refine step_append_onto _ (by rfl) (.tmp 42) (.tmp 44) 27 (by rfl) w4.heap.size 71 i0 (.agg #[.int .i64 0, .slice none 0 0, .bool false, .int .u64 0]) 4 48 Tryz.underlying27 hi hz0 hz1 hz2 rfl (by decide) g5 H.length cap5 (rcells encRL H) (by rfl) (hown5) aW W.length cW (rcells encRL W) (by rfl) (rcells_len encRL_len W) (by rcases HSW.out with q9 | ⟨g9, q1, q2⟩; exact .inl q9; exact .inr ⟨g9, q1, fun j u hj => h7.1.cell (QGb.out.cell (q2 j u hj))⟩) (rcells_one encRL_one W) (by unfold maxLen; omega) (by omega) h7.1.size _ rfl ?_
  intro g7 cap7 w7 hown7 hgrow7 hat7 hlt7
  have HG7 := Lib.hid (h7.1.append (hown5) hgrow7)
  first | refine hK.out _ _ ?sr88 (fun h8 => ?_) | (go_wp2_with fail; refine hK.out _ _ ?sr88 (fun h8 => ?_))
  case sr88 => ((try dsimp only); (first | exact HXX.out _ HG7.out | exact HXX.out _ HG5.out | exact HXX.out _ (h7.1.alloc _) | exact HXX.out _ h7.1))
  clear hK K h7
  try simp only [Act.put, List.setIfInBounds_toArray, List.set_cons_zero, List.set_cons_succ]
  refine wpAnyH_take (i := 7) (oi := { dst := some 46, op := Go.Op.call { callee := Go.Callee.builtin Go.Builtin.len, args := #[Go.Operand.tmp 45], argTypes := #[27] }, type := 3, pos := "ref.go:97", after := #[⟨6, .data⟩], guard := none }) (v := ?vr89) rfl (by kernel_rfl) (by kernel_rfl) (by kernel_rfl) (fun _ _ _ h => h) (Or.inl ⟨by rfl, ?rr89⟩) (by assumption) ?_
  case rr89 => (intro w hSw; (try dsimp only at hSw); (go_simp <;> with_reducible rfl))
  try simp only [Act.put, List.setIfInBounds_toArray, List.set_cons_zero, List.set_cons_succ]
  refine wpAnyH_done (by kernel_rfl) ?_ _
  skip
  have QBc := Lib.hid (QBb.out.gr HG7.out)
  have QXc := Lib.hid (QXb.out.gr HG7.out)
  have Q2c := Lib.hid (Q2b.out.gr HG7.out)
  have Q3c := Lib.hid (Q3b.out.gr HG7.out)
  have QGc := Lib.hid (QGb.out.trans (HG7.out))
  have HLR := Lib.hid hown7
  clear hown7 hgrow7 hat7 hlt7 hown5 hgrow5 hat5 hlt5 HG5 Hm1 HXX c0 c1 QBb QXb Q2b Q3b QFb HPL
  obtain ⟨LL, hLL⟩ : ∃ l, H ++ W = l := ⟨_, rfl⟩
  have HLN := Lib.hid (show LL.length = H.length + W.length by rw [← hLL, List.length_append])
  have HCE := Lib.hid (show rcells encRL LL = rcells encRL H ++ rcells encRL W by rw [← hLL, rcells_append])
  have HLI := Lib.hid (show ∀ y ∈ LL, y.lies w from fun y hy => by
    rw [← hLL] at hy
    rcases List.mem_append.1 hy with hy | hy
    · exact HRH.out.2 y hy
    · exact HRW.out.2 y hy)
  have HLA := Lib.hid hLL
  have HROW : Hid (RRow22 w7 w4.heap.size (.slice (some ⟨g7, 0, none⟩) LL.length cap7) LL) := Lib.hid ⟨by rw [HLN.out, HCE.out]; exact HLR.out, fun y hy => (HLI.out y hy).gr QGc.out⟩
  have HSN : Hid (∀ k (h : k < LL.length), cntR xs (LL.take (k + 1)) = cntR xs (LL.take k) + (if LL[k].ses = xs then 1 else 0)) := Lib.hid fun k h => by
    unfold cntR
    rw [List.take_succ_eq_append_getElem h, List.filter_append, List.length_append]
    by_cases h9 : LL[k].ses = xs <;> simp [List.filter, h9]
  have HBD : Hid (∀ k, 0 ≤ cntR xs (LL.take k) ∧ cntR xs (LL.take k) ≤ 400) := Lib.hid fun k => by
    unfold cntR
    have h1 := List.length_filter_le (fun y : RL => decide (y.ses = xs)) (LL.take k)
    rw [List.length_take] at h1
    have := HLN.out
    omega
  rw [hLL] at HQ
  have hlz : (H.length : Int) + (W.length : Int) = (LL.length : Int) := by have := HLN.out; omega
  rw [← HLN.out, hlz]
  clear hlz
  have hll : LL.length ≤ 400 := by have := HLN.out; omega
  clear hLL HLR
  go_wp2_with fail
  go_loopw [12, 47] (fun c i wr => ∃ k : Nat, k ≤ LL.length ∧ i = .int .i64 k ∧ c = .int .i64 (cntR xs (LL.take k)) ∧ Hid (Gr w7 wr)) (fun _ i _ => LL.length - (intOf i).toNat)
  case atStart => exact ⟨0, by omega, rfl, rfl, Lib.hid (Gr.refl _)⟩
  case round =>
    obtain ⟨k, hk, rfl, rfl, hG⟩ := hrel
    by_cases hlt : k < LL.length
    · obtain ⟨g, cap, hv, d0, d1, d2, d3, hlies⟩ := rlrow_at (HROW.out.gr hG.out) k hlt
      simp only [Value.slice.injEq, Option.some.injEq, Addr.mk.injEq, and_true, true_and] at hv
      obtain ⟨rfl, rfl⟩ := hv
      have HSJ := Lib.hid (HSN.out k hlt)
      have HBJ := Lib.hid (HBD.out k)
      have HY := Lib.hid (Blk.new wr #[.int .i64 LL[k].ses, .slice LL[k].a LL[k].l.length LL[k].c, .bool LL[k].ex, .int .u64 LL[k].tok] 71)
      have HGy := Lib.hid (hG.out.alloc (.cells #[.int .i64 LL[k].ses, .slice LL[k].a LL[k].l.length LL[k].c, .bool LL[k].ex, .int .u64 LL[k].tok] 71))
      clear hlies
      generalize LL[k] = y at *
      go_upto_region 11 with fail
      generalize wr.alloc (.cells #[.int .i64 y.ses, .slice y.a y.l.length y.c, .bool y.ex, .int .u64 y.tok] 71) = wy at *
      generalize wr.heap.size = cy at *
      clear d0 d1 d2 d3
      have d0 := HY.out.cell (i := 0) rfl
      have x0 := (QXc.out.gr HGy.out).cell (i := 0) rfl
      generalize cntR xs (LL.take k) = cn at *
      have hwr : IntKind.i64.wrap (cn + 1) = cn + 1 := IntWalk.i64_in _ (by have := HBJ.out; omega)
      by_cases h1 : y.ses = xs
      · have e1 : (y.ses == xs) = true := by simpa using h1
        rw [if_pos h1] at HSJ
        clear h1
        go_wp2
        exact ⟨⟨k + 1, hlt, by simp, by rw [HSJ.out], HGy⟩, by simp [intOf]; omega⟩
      · have e1 : (y.ses == xs) = false := by simpa using h1
        rw [if_neg h1] at HSJ
        clear h1
        go_wp2
        exact ⟨⟨k + 1, hlt, by simp, by rw [HSJ.out]; simp, HGy⟩, by simp [intOf]; omega⟩
    · obtain rfl : k = LL.length := by omega
      rw [List.take_length]
      rw [← HLA.out] at HQ ⊢
      have HGW := hG
      have QBd := Lib.hid (QBc.out.gr HGW.out)
      have QXd := Lib.hid (QXc.out.gr HGW.out)
      have Q2d := Lib.hid (Q2c.out.gr HGW.out)
      have Q3d := Lib.hid (Q3c.out.gr HGW.out)
      have QGd := Lib.hid (QGc.out.trans (HGW.out))
      clear hG QBc QXc Q2c Q3c HROW HLI HSN HBD HCE HLN HG7
      rw [HLA.out] at HQ ⊢
      obtain ⟨cn, hcn⟩ : ∃ c, cntR xs LL = c := ⟨_, rfl⟩
      rw [hcn] at HQ ⊢
      clear hcn HGW
      generalize wr = w8 at *
      by_cases h7 : 7 < cn
      · have hld7 : decide (7 < cn) = true := decide_eq_true h7
        rw [if_pos h7] at HQ
        clear h7
        have b0 := QBd.out.cell (i := 0) rfl
        have b1 := QBd.out.cell (i := 1) rfl
        have b2 := QBd.out.cell (i := 2) rfl
        have q20 := Q2d.out.cell (i := 0) rfl
        have q21 := Q2d.out.cell (i := 1) rfl
        have q22 := Q2d.out.cell (i := 2) rfl
        have q30 := Q3d.out.cell (i := 0) rfl
        have q31 := Q3d.out.cell (i := 1) rfl
        have q32 := Q3d.out.cell (i := 2) rfl
        have q33 := Q3d.out.cell (i := 3) rfl
        have d20 := Q2d.out.free 0
        have d21 := Q2d.out.free 1
        have d22 := Q2d.out.free 2
        have d30 := Q3d.out.free 0
        have d31 := Q3d.out.free 1
        have d32 := Q3d.out.free 2
        have d33 := Q3d.out.free 3
        have R1 := Lib.hid (ownsRow_gr QGd.out (ownsRow_lower HRH.out.1 (Nat.zero_le _)))
        have R2 := Lib.hid (ownsRow_gr QGd.out (ownsRow_lower HRW.out.1 (Nat.zero_le _)))
        go_wp2
        refine bodyPost_ret (v := .tuple #[.agg #[.slice aH H.length cH, .slice aW W.length cW, .int .u64 last], .agg #[.int .i64 0, .slice none 0 0, .bool false, .int .u64 0], .int .i64 0, .int .i64 17]) (by simp [results, Tryz.results24, go_sem, q20, q21, q22, q30, q31, q32, q33, d20, d21, d22, d30, d31, d32, d33]; try rfl) rfl ?_
        rw [show q = (H, W, last, zRL, 0, 17) from HQ.out.symm]
        exact ⟨_, _, rfl, ⟨(ownsRow_setCell_other (a := ⟨w.heap.size + 1 + 1 + 1, 3, none⟩) (ownsRow_setCell_other (a := ⟨w.heap.size + 1 + 1 + 1, 2, none⟩) (ownsRow_setCell_other (a := ⟨w.heap.size + 1 + 1 + 1, 1, none⟩) (ownsRow_setCell_other (a := ⟨w.heap.size + 1 + 1 + 1, 0, none⟩) (ownsRow_setCell_other (a := ⟨w.heap.size + 1 + 1, 2, none⟩) (ownsRow_setCell_other (a := ⟨w.heap.size + 1 + 1, 1, none⟩) (ownsRow_setCell_other (a := ⟨w.heap.size + 1 + 1, 0, none⟩) R1.out N12.out _) N12.out _) N12.out _) N13.out _) N13.out _) N13.out _) N13.out _), fun x hx => (HRH.out.2 x hx).gr (((((((QGd.out.setCell (p := ⟨w.heap.size + 1 + 1, 0, none⟩) (by simp; try omega) _).setCell (p := ⟨w.heap.size + 1 + 1, 1, none⟩) (by simp; try omega) _).setCell (p := ⟨w.heap.size + 1 + 1, 2, none⟩) (by simp; try omega) _).setCell (p := ⟨w.heap.size + 1 + 1 + 1, 0, none⟩) (by simp; try omega) _).setCell (p := ⟨w.heap.size + 1 + 1 + 1, 1, none⟩) (by simp; try omega) _).setCell (p := ⟨w.heap.size + 1 + 1 + 1, 2, none⟩) (by simp; try omega) _).setCell (p := ⟨w.heap.size + 1 + 1 + 1, 3, none⟩) (by simp; try omega) _)⟩, ⟨(ownsRow_setCell_other (a := ⟨w.heap.size + 1 + 1 + 1, 3, none⟩) (ownsRow_setCell_other (a := ⟨w.heap.size + 1 + 1 + 1, 2, none⟩) (ownsRow_setCell_other (a := ⟨w.heap.size + 1 + 1 + 1, 1, none⟩) (ownsRow_setCell_other (a := ⟨w.heap.size + 1 + 1 + 1, 0, none⟩) (ownsRow_setCell_other (a := ⟨w.heap.size + 1 + 1, 2, none⟩) (ownsRow_setCell_other (a := ⟨w.heap.size + 1 + 1, 1, none⟩) (ownsRow_setCell_other (a := ⟨w.heap.size + 1 + 1, 0, none⟩) R2.out N22.out _) N22.out _) N22.out _) N23.out _) N23.out _) N23.out _) N23.out _), fun x hx => (HRW.out.2 x hx).gr (((((((QGd.out.setCell (p := ⟨w.heap.size + 1 + 1, 0, none⟩) (by simp; try omega) _).setCell (p := ⟨w.heap.size + 1 + 1, 1, none⟩) (by simp; try omega) _).setCell (p := ⟨w.heap.size + 1 + 1, 2, none⟩) (by simp; try omega) _).setCell (p := ⟨w.heap.size + 1 + 1 + 1, 0, none⟩) (by simp; try omega) _).setCell (p := ⟨w.heap.size + 1 + 1 + 1, 1, none⟩) (by simp; try omega) _).setCell (p := ⟨w.heap.size + 1 + 1 + 1, 2, none⟩) (by simp; try omega) _).setCell (p := ⟨w.heap.size + 1 + 1 + 1, 3, none⟩) (by simp; try omega) _)⟩, (((((((QGd.out.setCell (p := ⟨w.heap.size + 1 + 1, 0, none⟩) (by simp; try omega) _).setCell (p := ⟨w.heap.size + 1 + 1, 1, none⟩) (by simp; try omega) _).setCell (p := ⟨w.heap.size + 1 + 1, 2, none⟩) (by simp; try omega) _).setCell (p := ⟨w.heap.size + 1 + 1 + 1, 0, none⟩) (by simp; try omega) _).setCell (p := ⟨w.heap.size + 1 + 1 + 1, 1, none⟩) (by simp; try omega) _).setCell (p := ⟨w.heap.size + 1 + 1 + 1, 2, none⟩) (by simp; try omega) _).setCell (p := ⟨w.heap.size + 1 + 1 + 1, 3, none⟩) (by simp; try omega) _)⟩
      · have hld7 : decide (7 < cn) = false := decide_eq_false h7
        rw [if_neg h7] at HQ
        clear h7
        go_upto_region 16 with fail
        have b0 := QBd.out.cell (i := 0) rfl
        have b1 := QBd.out.cell (i := 1) rfl
        have b2 := QBd.out.cell (i := 2) rfl
        have x0 := QXd.out.cell (i := 0) rfl
        have x1 := QXd.out.cell (i := 1) rfl
        have x2 := QXd.out.cell (i := 2) rfl
        have x3 := QXd.out.cell (i := 3) rfl
        have HM := Lib.hid (refMay_any (vW := .slice aW W.length cW) (last := last) H W ⟨xs, xl, xa, xc, xe, 0⟩ w8 (HRH.out.gr QGd.out) (HRW.out.gr QGd.out) (HX.out.gr QGd.out : Strs w8 xa xl) (by omega))
        replace HQ : Hid ((if mayR H W ⟨xs, xl, xa, xc, xe, 0⟩ = true then if last = 18446744073709551615 then (H, W, last, zRL, 0, 19) else (H ++ [⟨xs, xl, xa, xc, xe, last + 1⟩], W, last + 1, ⟨xs, xl, xa, xc, xe, last + 1⟩, 0, 0) else if wait = false then (H, W, last, zRL, 0, 16) else if 7 < (W.length : Int) then (H, W, last, zRL, 0, 17) else (H, W ++ [⟨xs, xl, xa, xc, xe, 0⟩], last, ⟨xs, xl, xa, xc, xe, 0⟩, (W.length : Int) + 1, 0)) = q) := HQ
        simp only at HM
        cases hm : mayR H W ⟨xs, xl, xa, xc, xe, 0⟩
        · rw [hm] at HM HQ
          rw [if_neg (show ¬ (false = true) by simp)] at HQ
          clear hm
          go_wp2_with fail
          refine HM.out.mono ?_
          rintro e we ⟨rfl, hg9⟩
          have QBe := Lib.hid (QBd.out.gr hg9)
          have QXe := Lib.hid (QXd.out.gr hg9)
          have Q2e := Lib.hid (Q2d.out.gr hg9)
          have Q3e := Lib.hid (Q3d.out.gr hg9)
          have QGe := Lib.hid (QGd.out.trans (hg9))
          clear hg9 HM b0 b1 b2 x0 x1 x2 x3 QBd QXd Q2d Q3d
          cases wait
          · rw [if_pos (show false = false from rfl)] at HQ
            have b0 := QBe.out.cell (i := 0) rfl
            have b1 := QBe.out.cell (i := 1) rfl
            have b2 := QBe.out.cell (i := 2) rfl
            have q20 := Q2e.out.cell (i := 0) rfl
            have q21 := Q2e.out.cell (i := 1) rfl
            have q22 := Q2e.out.cell (i := 2) rfl
            have q30 := Q3e.out.cell (i := 0) rfl
            have q31 := Q3e.out.cell (i := 1) rfl
            have q32 := Q3e.out.cell (i := 2) rfl
            have q33 := Q3e.out.cell (i := 3) rfl
            have d20 := Q2e.out.free 0
            have d21 := Q2e.out.free 1
            have d22 := Q2e.out.free 2
            have d30 := Q3e.out.free 0
            have d31 := Q3e.out.free 1
            have d32 := Q3e.out.free 2
            have d33 := Q3e.out.free 3
            have R1 := Lib.hid (ownsRow_gr QGe.out (ownsRow_lower HRH.out.1 (Nat.zero_le _)))
            have R2 := Lib.hid (ownsRow_gr QGe.out (ownsRow_lower HRW.out.1 (Nat.zero_le _)))
            go_wp2
            refine bodyPost_ret (v := .tuple #[.agg #[.slice aH H.length cH, .slice aW W.length cW, .int .u64 last], .agg #[.int .i64 0, .slice none 0 0, .bool false, .int .u64 0], .int .i64 0, .int .i64 16]) (by simp [results, Tryz.results24, go_sem, q20, q21, q22, q30, q31, q32, q33, d20, d21, d22, d30, d31, d32, d33]; try rfl) rfl ?_
            rw [show q = (H, W, last, zRL, 0, 16) from HQ.out.symm]
            exact ⟨_, _, rfl, ⟨(ownsRow_setCell_other (a := ⟨w.heap.size + 1 + 1 + 1, 3, none⟩) (ownsRow_setCell_other (a := ⟨w.heap.size + 1 + 1 + 1, 2, none⟩) (ownsRow_setCell_other (a := ⟨w.heap.size + 1 + 1 + 1, 1, none⟩) (ownsRow_setCell_other (a := ⟨w.heap.size + 1 + 1 + 1, 0, none⟩) (ownsRow_setCell_other (a := ⟨w.heap.size + 1 + 1, 2, none⟩) (ownsRow_setCell_other (a := ⟨w.heap.size + 1 + 1, 1, none⟩) (ownsRow_setCell_other (a := ⟨w.heap.size + 1 + 1, 0, none⟩) R1.out N12.out _) N12.out _) N12.out _) N13.out _) N13.out _) N13.out _) N13.out _), fun x hx => (HRH.out.2 x hx).gr (((((((QGe.out.setCell (p := ⟨w.heap.size + 1 + 1, 0, none⟩) (by simp; try omega) _).setCell (p := ⟨w.heap.size + 1 + 1, 1, none⟩) (by simp; try omega) _).setCell (p := ⟨w.heap.size + 1 + 1, 2, none⟩) (by simp; try omega) _).setCell (p := ⟨w.heap.size + 1 + 1 + 1, 0, none⟩) (by simp; try omega) _).setCell (p := ⟨w.heap.size + 1 + 1 + 1, 1, none⟩) (by simp; try omega) _).setCell (p := ⟨w.heap.size + 1 + 1 + 1, 2, none⟩) (by simp; try omega) _).setCell (p := ⟨w.heap.size + 1 + 1 + 1, 3, none⟩) (by simp; try omega) _)⟩, ⟨(ownsRow_setCell_other (a := ⟨w.heap.size + 1 + 1 + 1, 3, none⟩) (ownsRow_setCell_other (a := ⟨w.heap.size + 1 + 1 + 1, 2, none⟩) (ownsRow_setCell_other (a := ⟨w.heap.size + 1 + 1 + 1, 1, none⟩) (ownsRow_setCell_other (a := ⟨w.heap.size + 1 + 1 + 1, 0, none⟩) (ownsRow_setCell_other (a := ⟨w.heap.size + 1 + 1, 2, none⟩) (ownsRow_setCell_other (a := ⟨w.heap.size + 1 + 1, 1, none⟩) (ownsRow_setCell_other (a := ⟨w.heap.size + 1 + 1, 0, none⟩) R2.out N22.out _) N22.out _) N22.out _) N23.out _) N23.out _) N23.out _) N23.out _), fun x hx => (HRW.out.2 x hx).gr (((((((QGe.out.setCell (p := ⟨w.heap.size + 1 + 1, 0, none⟩) (by simp; try omega) _).setCell (p := ⟨w.heap.size + 1 + 1, 1, none⟩) (by simp; try omega) _).setCell (p := ⟨w.heap.size + 1 + 1, 2, none⟩) (by simp; try omega) _).setCell (p := ⟨w.heap.size + 1 + 1 + 1, 0, none⟩) (by simp; try omega) _).setCell (p := ⟨w.heap.size + 1 + 1 + 1, 1, none⟩) (by simp; try omega) _).setCell (p := ⟨w.heap.size + 1 + 1 + 1, 2, none⟩) (by simp; try omega) _).setCell (p := ⟨w.heap.size + 1 + 1 + 1, 3, none⟩) (by simp; try omega) _)⟩, (((((((QGe.out.setCell (p := ⟨w.heap.size + 1 + 1, 0, none⟩) (by simp; try omega) _).setCell (p := ⟨w.heap.size + 1 + 1, 1, none⟩) (by simp; try omega) _).setCell (p := ⟨w.heap.size + 1 + 1, 2, none⟩) (by simp; try omega) _).setCell (p := ⟨w.heap.size + 1 + 1 + 1, 0, none⟩) (by simp; try omega) _).setCell (p := ⟨w.heap.size + 1 + 1 + 1, 1, none⟩) (by simp; try omega) _).setCell (p := ⟨w.heap.size + 1 + 1 + 1, 2, none⟩) (by simp; try omega) _).setCell (p := ⟨w.heap.size + 1 + 1 + 1, 3, none⟩) (by simp; try omega) _)⟩
          · rw [if_neg (show ¬ (true = false) by simp)] at HQ
            have b1 := QBe.out.cell (i := 1) rfl
            go_upto_region 23 with fail
            by_cases h7 : 7 < (W.length : Int)
            · have hld8 : decide (7 < (W.length : Int)) = true := decide_eq_true h7
              rw [if_pos h7] at HQ
              clear h7 b1
              have b1q := QBe.out.cell (i := 1) rfl
              have b0 := QBe.out.cell (i := 0) rfl
              have b1 := QBe.out.cell (i := 1) rfl
              have b2 := QBe.out.cell (i := 2) rfl
              have q20 := Q2e.out.cell (i := 0) rfl
              have q21 := Q2e.out.cell (i := 1) rfl
              have q22 := Q2e.out.cell (i := 2) rfl
              have q30 := Q3e.out.cell (i := 0) rfl
              have q31 := Q3e.out.cell (i := 1) rfl
              have q32 := Q3e.out.cell (i := 2) rfl
              have q33 := Q3e.out.cell (i := 3) rfl
              have d20 := Q2e.out.free 0
              have d21 := Q2e.out.free 1
              have d22 := Q2e.out.free 2
              have d30 := Q3e.out.free 0
              have d31 := Q3e.out.free 1
              have d32 := Q3e.out.free 2
              have d33 := Q3e.out.free 3
              have R1 := Lib.hid (ownsRow_gr QGe.out (ownsRow_lower HRH.out.1 (Nat.zero_le _)))
              have R2 := Lib.hid (ownsRow_gr QGe.out (ownsRow_lower HRW.out.1 (Nat.zero_le _)))
              go_wp2
              refine bodyPost_ret (v := .tuple #[.agg #[.slice aH H.length cH, .slice aW W.length cW, .int .u64 last], .agg #[.int .i64 0, .slice none 0 0, .bool false, .int .u64 0], .int .i64 0, .int .i64 17]) (by simp [results, Tryz.results24, go_sem, q20, q21, q22, q30, q31, q32, q33, d20, d21, d22, d30, d31, d32, d33]; try rfl) rfl ?_
              rw [show q = (H, W, last, zRL, 0, 17) from HQ.out.symm]
              exact ⟨_, _, rfl, ⟨(ownsRow_setCell_other (a := ⟨w.heap.size + 1 + 1 + 1, 3, none⟩) (ownsRow_setCell_other (a := ⟨w.heap.size + 1 + 1 + 1, 2, none⟩) (ownsRow_setCell_other (a := ⟨w.heap.size + 1 + 1 + 1, 1, none⟩) (ownsRow_setCell_other (a := ⟨w.heap.size + 1 + 1 + 1, 0, none⟩) (ownsRow_setCell_other (a := ⟨w.heap.size + 1 + 1, 2, none⟩) (ownsRow_setCell_other (a := ⟨w.heap.size + 1 + 1, 1, none⟩) (ownsRow_setCell_other (a := ⟨w.heap.size + 1 + 1, 0, none⟩) R1.out N12.out _) N12.out _) N12.out _) N13.out _) N13.out _) N13.out _) N13.out _), fun x hx => (HRH.out.2 x hx).gr (((((((QGe.out.setCell (p := ⟨w.heap.size + 1 + 1, 0, none⟩) (by simp; try omega) _).setCell (p := ⟨w.heap.size + 1 + 1, 1, none⟩) (by simp; try omega) _).setCell (p := ⟨w.heap.size + 1 + 1, 2, none⟩) (by simp; try omega) _).setCell (p := ⟨w.heap.size + 1 + 1 + 1, 0, none⟩) (by simp; try omega) _).setCell (p := ⟨w.heap.size + 1 + 1 + 1, 1, none⟩) (by simp; try omega) _).setCell (p := ⟨w.heap.size + 1 + 1 + 1, 2, none⟩) (by simp; try omega) _).setCell (p := ⟨w.heap.size + 1 + 1 + 1, 3, none⟩) (by simp; try omega) _)⟩, ⟨(ownsRow_setCell_other (a := ⟨w.heap.size + 1 + 1 + 1, 3, none⟩) (ownsRow_setCell_other (a := ⟨w.heap.size + 1 + 1 + 1, 2, none⟩) (ownsRow_setCell_other (a := ⟨w.heap.size + 1 + 1 + 1, 1, none⟩) (ownsRow_setCell_other (a := ⟨w.heap.size + 1 + 1 + 1, 0, none⟩) (ownsRow_setCell_other (a := ⟨w.heap.size + 1 + 1, 2, none⟩) (ownsRow_setCell_other (a := ⟨w.heap.size + 1 + 1, 1, none⟩) (ownsRow_setCell_other (a := ⟨w.heap.size + 1 + 1, 0, none⟩) R2.out N22.out _) N22.out _) N22.out _) N23.out _) N23.out _) N23.out _) N23.out _), fun x hx => (HRW.out.2 x hx).gr (((((((QGe.out.setCell (p := ⟨w.heap.size + 1 + 1, 0, none⟩) (by simp; try omega) _).setCell (p := ⟨w.heap.size + 1 + 1, 1, none⟩) (by simp; try omega) _).setCell (p := ⟨w.heap.size + 1 + 1, 2, none⟩) (by simp; try omega) _).setCell (p := ⟨w.heap.size + 1 + 1 + 1, 0, none⟩) (by simp; try omega) _).setCell (p := ⟨w.heap.size + 1 + 1 + 1, 1, none⟩) (by simp; try omega) _).setCell (p := ⟨w.heap.size + 1 + 1 + 1, 2, none⟩) (by simp; try omega) _).setCell (p := ⟨w.heap.size + 1 + 1 + 1, 3, none⟩) (by simp; try omega) _)⟩, (((((((QGe.out.setCell (p := ⟨w.heap.size + 1 + 1, 0, none⟩) (by simp; try omega) _).setCell (p := ⟨w.heap.size + 1 + 1, 1, none⟩) (by simp; try omega) _).setCell (p := ⟨w.heap.size + 1 + 1, 2, none⟩) (by simp; try omega) _).setCell (p := ⟨w.heap.size + 1 + 1 + 1, 0, none⟩) (by simp; try omega) _).setCell (p := ⟨w.heap.size + 1 + 1 + 1, 1, none⟩) (by simp; try omega) _).setCell (p := ⟨w.heap.size + 1 + 1 + 1, 2, none⟩) (by simp; try omega) _).setCell (p := ⟨w.heap.size + 1 + 1 + 1, 3, none⟩) (by simp; try omega) _)⟩
            · have hld8 : decide (7 < (W.length : Int)) = false := decide_eq_false h7
              rw [if_neg h7] at HQ
              go_upto_region 25 with fail
              clear h7 b1 hld8
              have c1 := QBe.out.cell (i := 1) rfl
              have f1 := QBe.out.free 1
              have p0 := QXe.out.cell (i := 0) rfl
              have p1 := QXe.out.cell (i := 1) rfl
              have p2 := QXe.out.cell (i := 2) rfl
              have p3 := QXe.out.cell (i := 3) rfl
              have hs9 : w.heap.size + 1 + 1 + 1 < we.heap.size := Q3e.out.lt
              have HXX : Hid (∀ w9 : World, Gr we w9 → (fun w9 => Gr we w9 ∧ w9.cell? ⟨w.heap.size, 1, none⟩ = some (.slice aW W.length cW) ∧ w9.cell? ⟨(w.heap.size + 1), 0, none⟩ = some (.int .i64 xs) ∧ w9.cell? ⟨(w.heap.size + 1), 1, none⟩ = some (.slice xa xl.length xc) ∧ w9.cell? ⟨(w.heap.size + 1), 2, none⟩ = some (.bool xe) ∧ w9.cell? ⟨(w.heap.size + 1), 3, none⟩ = some (.int .u64 0)) w9) := Lib.hid fun w9 hg => ⟨hg, hg.cell c1, hg.cell p0, hg.cell p1, hg.cell p2, hg.cell p3⟩
              have Hm1 := Lib.hid (World.ownsRow_made (base := we.heap.size) (e := 71) (size := 4) we.drew #[] 0 (Nat.le_refl _) (by unfold maxLen; omega) rfl)
              have Hm2 := Lib.hid (World.ownsRow_made (base := we.heap.size) (e := 71) (size := 4) (we.drew.alloc (.cells #[.int .i64 xs, .slice xa xl.length xc, .bool xe, .int .u64 0] 71)) #[] 0 (by simp) (by unfold maxLen; omega) rfl)
              have Hb1 := Lib.hid (Blk.new (we.drew.alloc (.cells #[] 71)) #[.int .i64 xs, .slice xa xl.length xc, .bool xe, .int .u64 0] 71)
              have Hb2 := Lib.hid ((Blk.new we.drew #[.int .i64 xs, .slice xa xl.length xc, .bool xe, .int .u64 0] 71).gr ((Gr.refl _).alloc (.cells #[] 71)))
              simp at Hm1 Hm2 Hb1 Hb2
              go_wp2_with fail
              refine late_start (fun i => decide (8 ≤ i)) (fun w9 => Gr we w9 ∧ w9.cell? ⟨w.heap.size, 1, none⟩ = some (.slice aW W.length cW) ∧ w9.cell? ⟨(w.heap.size + 1), 0, none⟩ = some (.int .i64 xs) ∧ w9.cell? ⟨(w.heap.size + 1), 1, none⟩ = some (.slice xa xl.length xc) ∧ w9.cell? ⟨(w.heap.size + 1), 2, none⟩ = some (.bool xe) ∧ w9.cell? ⟨(w.heap.size + 1), 3, none⟩ = some (.int .u64 0)) (by kernel_rfl) ?invq (fun h0 => ?_)
              case invq => ((try dsimp only); (exact HXX.out _ (Gr.refl _).drew))
              refine late_take (i := 1) (oi := { dst := some 92, op := Go.Op.fieldAddr 29 (Go.Operand.tmp 3) 1, type := 0, pos := "ref.go:118", after := #[], guard := none }) (v := ?vq1) rfl (by kernel_rfl) (by kernel_rfl) (by kernel_rfl) (by kernel_rfl) (by kernel_rfl) (fun _ _ _ h => h) (Or.inl ⟨by rfl, ?rq1⟩) (by assumption) ?_
              case rq1 => (intro w hSw; (try dsimp only at hSw); (go_simp <;> with_reducible rfl))
              try simp only [Act.put, List.setIfInBounds_toArray, List.set_cons_zero, List.set_cons_succ]
              refine late_take (i := 2) (oi := { dst := some 93, op := Go.Op.load 27 (Go.Operand.tmp 92), type := 27, pos := "ref.go:118", after := #[⟨1, .data⟩], guard := none }) (v := ?vq2) rfl (by kernel_rfl) (by kernel_rfl) (by kernel_rfl) (by kernel_rfl) (by kernel_rfl) (fun _ _ _ h => h) (Or.inl ⟨by rfl, ?rq2⟩) (by assumption) ?_
              case rq2 => (intro w hSw; (try dsimp only at hSw); (go_simp <;> with_reducible rfl))
              try simp only [Act.put, List.setIfInBounds_toArray, List.set_cons_zero, List.set_cons_succ]
              refine late_take (i := 4) (oi := { dst := some 95, op := Go.Op.load 71 (Go.Operand.tmp 4), type := 71, pos := "ref.go:118", after := #[], guard := none }) (v := ?vq3) rfl (by kernel_rfl) (by kernel_rfl) (by kernel_rfl) (by kernel_rfl) (by kernel_rfl) (fun _ _ _ h => h) (Or.inl ⟨by rfl, ?rq3⟩) (by assumption) ?_
              case rq3 => (intro w hSw; (try dsimp only at hSw); (go_simp <;> with_reducible rfl))
              try simp only [Act.put, List.setIfInBounds_toArray, List.set_cons_zero, List.set_cons_succ]
              refine late_ready (rs := [0, 5]) (by kernel_rfl) (by simp) ?_
              refine LateAll.cons (o := { dst := some 91, op := Go.Op.buildSlice 27 0 #[], type := 27, pos := "ref.go:118", after := #[], guard := none }) rfl (fun K hK => ?_) (LateAll.cons (o := { dst := some 96, op := Go.Op.buildSlice 27 1 #[(0, Go.Operand.tmp 95)], type := 27, pos := "ref.go:118", after := #[⟨4, .data⟩], guard := none }) rfl (fun K hK => ?_) LateAll.nil)
              · skip
                go_simp
                skip
                first | refine hK.out _ _ ?sq4 (fun h4 => ?_) | (go_wp2_with fail; refine hK.out _ _ ?sq4 (fun h4 => ?_))
                case sq4 => ((try dsimp only); (first | exact HXX.out _ HG7.out | exact HXX.out _ HG5.out | exact HXX.out _ (h0.1.alloc _) | exact HXX.out _ h0.1))
                clear hK K h0
                try simp only [Act.put, List.setIfInBounds_toArray, List.set_cons_zero, List.set_cons_succ]
                refine late_ready (rs := [3, 5]) (by kernel_rfl) (by simp) ?_
                refine LateAll.cons (o := { dst := some 94, op := Go.Op.call { callee := Go.Callee.builtin Go.Builtin.append, args := #[Go.Operand.tmp 91, Go.Operand.tmp 93], argTypes := #[27, 27] }, type := 27, pos := "ref.go:118", after := #[⟨0, .data⟩, ⟨2, .data⟩], guard := none }) rfl (fun K hK => ?_) (LateAll.cons (o := { dst := some 96, op := Go.Op.buildSlice 27 1 #[(0, Go.Operand.tmp 95)], type := 27, pos := "ref.go:118", after := #[⟨4, .data⟩], guard := none }) rfl (fun K hK => ?_) LateAll.nil)
                · skip
                  refine step_append_row _ (by rfl) (.tmp 91) (.tmp 93) 27 (by rfl) we.heap.size 71 i0 (.agg #[.int .i64 0, .slice none 0 0, .bool false, .int .u64 0]) 4 48 Tryz.underlying27 hi hz0 hz1 hz2 rfl (by decide) (we.heap.size) (by rfl) (Hm1.out) aW W.length cW (rcells encRL W) (by rfl) (rcells_len encRL_len W) (by rcases HSW.out with q | ⟨g9, q1, q2⟩; exact .inl q; exact .inr ⟨g9, q1, fun j u hj => h4.1.cell (QGe.out.cell (q2 j u hj))⟩) (rcells_one encRL_one W) (by unfold maxLen; omega) (by omega) h4.1.size _ rfl ?_
                  intro g5 cap5 w5 hown5 hgrow5 hat5 hlt5
                  have HG5 := Lib.hid (h4.1.append (Hm1.out) hgrow5)
                  
                  first | refine hK.out _ _ ?sq5 (fun h5 => ?_) | (go_wp2_with fail; refine hK.out _ _ ?sq5 (fun h5 => ?_))
                  case sq5 => ((try dsimp only); (first | exact HXX.out _ HG7.out | exact HXX.out _ HG5.out | exact HXX.out _ (h4.1.alloc _) | exact HXX.out _ h4.1))
                  clear hK K h4
                  try simp only [Act.put, List.setIfInBounds_toArray, List.set_cons_zero, List.set_cons_succ]
                  refine late_ready (rs := [5]) (by kernel_rfl) (by simp) ?_
                  refine LateAll.cons (o := { dst := some 96, op := Go.Op.buildSlice 27 1 #[(0, Go.Operand.tmp 95)], type := 27, pos := "ref.go:118", after := #[⟨4, .data⟩], guard := none }) rfl (fun K hK => ?_) LateAll.nil
                  go_simp
                  skip
                  first | refine hK.out _ _ ?sq6 (fun h6 => ?_) | (go_wp2_with fail; refine hK.out _ _ ?sq6 (fun h6 => ?_))
                  case sq6 => ((try dsimp only); (first | exact HXX.out _ HG7.out | exact HXX.out _ HG5.out | exact HXX.out _ (h5.1.alloc _) | exact HXX.out _ h5.1))
                  clear hK K h5
                  try simp only [Act.put, List.setIfInBounds_toArray, List.set_cons_zero, List.set_cons_succ]
                  refine late_ready (rs := [6]) (by kernel_rfl) (by simp) ?_
                  refine LateAll.cons (o := { dst := some 97, op := Go.Op.call { callee := Go.Callee.builtin Go.Builtin.append, args := #[Go.Operand.tmp 94, Go.Operand.tmp 96], argTypes := #[27, 27] }, type := 27, pos := "ref.go:118", after := #[⟨3, .data⟩, ⟨5, .data⟩, ⟨3, .chain⟩], guard := none }) rfl (fun K hK => ?_) LateAll.nil
                  refine step_append_lies _ (by rfl) (.tmp 94) (.tmp 96) 27 (by rfl) we.heap.size 71 i0 (.agg #[.int .i64 0, .slice none 0 0, .bool false, .int .u64 0]) 4 48 Tryz.underlying27 hi hz0 hz1 hz2 rfl (by decide) _ W.length _ (by rfl) (hown5.alloc _) ⟨_, 0, none⟩ 1 1 [.int .i64 xs, .slice xa xl.length xc, .bool xe, .int .u64 0] (by rfl) (by rfl) (World.news_of_block (cs := #[.int .i64 xs, .slice xa xl.length xc, .bool xe, .int .u64 0]) (t := 71) (fr := (0, 0)) (heap_alloc_new w5 _)) (by intro u hu; simp at hu; rcases hu with rfl | rfl | rfl | rfl <;> rfl) (by omega) (by unfold maxLen; omega) (by omega) h6.1.size _ rfl ?_
                  intro g7 cap7 w7 hown7 hgrow7 hat7 hlt7
                  have HG7 := Lib.hid (h6.1.append (hown5.alloc _) hgrow7)
                  first | refine hK.out _ _ ?sq7 (fun h7 => ?_) | (go_wp2_with fail; refine hK.out _ _ ?sq7 (fun h7 => ?_))
                  case sq7 => ((try dsimp only); (first | exact HXX.out _ HG7.out | exact HXX.out _ HG5.out | exact HXX.out _ (h6.1.alloc _) | exact HXX.out _ h6.1))
                  clear hK K h6
                  try simp only [Act.put, List.setIfInBounds_toArray, List.set_cons_zero, List.set_cons_succ]
                  refine late_take (i := 7) (oi := { dst := some 98, op := Go.Op.fieldAddr 29 (Go.Operand.tmp 3) 1, type := 0, pos := "ref.go:118", after := #[⟨0, .phase⟩, ⟨1, .phase⟩, ⟨2, .phase⟩, ⟨3, .phase⟩, ⟨4, .phase⟩, ⟨5, .phase⟩, ⟨6, .phase⟩], guard := none }) (v := ?vq8) rfl (by kernel_rfl) (by kernel_rfl) (by kernel_rfl) (by kernel_rfl) (by kernel_rfl) (fun _ _ _ h => h) (Or.inl ⟨by rfl, ?rq8⟩) (by assumption) ?_
                  case rq8 => (intro w hSw; (try dsimp only at hSw); (go_simp <;> with_reducible rfl))
                  try simp only [Act.put, List.setIfInBounds_toArray, List.set_cons_zero, List.set_cons_succ]
                  have HO7 := Lib.hid hown7
                  clear hown7 hgrow7 hat7 hlt7
                  have m0 := (HG7.out.frozen (cell_lt c1) (o := 1)).trans f1
                  have K0 := Lib.hid (QBe.out.gr HG7.out)
                  have K1 := Lib.hid (QXe.out.gr HG7.out)
                  have K2 := Lib.hid (Q2e.out.gr HG7.out)
                  have K3 := Lib.hid (Q3e.out.gr HG7.out)
                  clear c1 f1 p0 p1 p2 p3
                  refine late_go (by kernel_rfl) ?_
                  refine any_one (i := 8) (o := { dst := none, op := Go.Op.store 27 (Go.Operand.tmp 98) (Go.Operand.tmp 97), type := 0, pos := "ref.go:118", after := #[⟨7, .data⟩, ⟨6, .data⟩, ⟨6, .chain⟩, ⟨0, .phase⟩, ⟨1, .phase⟩, ⟨2, .phase⟩, ⟨3, .phase⟩, ⟨4, .phase⟩, ⟨5, .phase⟩, ⟨6, .phase⟩], guard := none }) (by kernel_rfl) rfl (fun K hK => ?_)
                  go_simp
                  refine hK.out _ _ ?_
                  clear hK K
                  try simp only [Act.put, List.setIfInBounds_toArray, List.set_cons_zero, List.set_cons_succ]
                  refine any_done (by kernel_rfl) ?_
                  have R2 := Lib.hid (ownsRow_lower (ownsRow_setCell_other (a := ⟨w.heap.size, 1, none⟩) HO7.out (fun e => by have h1 : we.heap.size ≤ w.heap.size := (HO7.out.lt _ e).1; omega) (.slice (some ⟨g7, 0, none⟩) (W.length + 1) cap7)) (Nat.zero_le _))
                  have R1 := Lib.hid (ownsRow_setCell_other (a := ⟨w.heap.size, 1, none⟩) (ownsRow_gr (QGe.out.trans HG7.out) (ownsRow_lower HRH.out.1 (Nat.zero_le _))) (row_offL K0.out (ownsRow_gr (QGe.out.trans HG7.out) HRH.out.1) (by decide)) (.slice (some ⟨g7, 0, none⟩) (W.length + 1) cap7))
                  have QGf := Lib.hid ((QGe.out.trans HG7.out).setCell (p := ⟨w.heap.size, 1, none⟩) (Nat.le_refl _) (.slice (some ⟨g7, 0, none⟩) (W.length + 1) cap7))
                  have U0 : Hid (Blk (w7.setCell ⟨w.heap.size, 1, none⟩ (.slice (some ⟨g7, 0, none⟩) (W.length + 1) cap7)) w.heap.size #[.slice aH H.length cH, (.slice (some ⟨g7, 0, none⟩) (W.length + 1) cap7), .int .u64 last] 29) := Lib.hid (K0.out.set 1 _)
                  have U1 := Lib.hid (K1.out.other (c := w.heap.size) (by omega) 1 (.slice (some ⟨g7, 0, none⟩) (W.length + 1) cap7))
                  have Q2f := Lib.hid (K2.out.other (c := w.heap.size) (by omega) 1 (.slice (some ⟨g7, 0, none⟩) (W.length + 1) cap7))
                  have Q3f := Lib.hid (K3.out.other (c := w.heap.size) (by omega) 1 (.slice (some ⟨g7, 0, none⟩) (W.length + 1) cap7))
                  have N22 := Lib.hid (show (Value.slice (some ⟨g7, 0, none⟩) (W.length + 1) cap7).ownBlock ≠ some (w.heap.size + 1 + 1) from fun e => by have := (HO7.out.lt _ e).1; omega)
                  have N23 := Lib.hid (show (Value.slice (some ⟨g7, 0, none⟩) (W.length + 1) cap7).ownBlock ≠ some (w.heap.size + 1 + 1 + 1) from fun e => by have := (HO7.out.lt _ e).1; omega)
                  clear HG7 K0 K1 K2 K3 HO7 m0
                  go_upto_region 26 with fail
                  generalize w7.setCell ⟨w.heap.size, 1, none⟩ (.slice (some ⟨g7, 0, none⟩) (W.length + 1) cap7) = wb at *
                  have HS9 : Hid ((fun w0 => w0.cell? ⟨w.heap.size, 0, none⟩ = some (.slice aH H.length cH) ∧ w0.cell? ⟨w.heap.size, 1, none⟩ = some ((.slice (some ⟨g7, 0, none⟩) (W.length + 1) cap7)) ∧ w0.cell? ⟨w.heap.size, 2, none⟩ = some (.int .u64 last) ∧ w0.cell? ⟨(w.heap.size + 1), 0, none⟩ = some (.int .i64 xs) ∧ w0.cell? ⟨(w.heap.size + 1), 1, none⟩ = some (.slice xa xl.length xc) ∧ w0.cell? ⟨(w.heap.size + 1), 2, none⟩ = some (.bool xe) ∧ w0.cell? ⟨(w.heap.size + 1), 3, none⟩ = some (.int .u64 0)) wb.drew) := Lib.hid (have G9 := (Gr.refl wb).drew; ⟨(U0.out.gr G9).cell (i := 0) rfl, (U0.out.gr G9).cell (i := 1) rfl, (U0.out.gr G9).cell (i := 2) rfl, (U1.out.gr G9).cell (i := 0) rfl, (U1.out.gr G9).cell (i := 1) rfl, (U1.out.gr G9).cell (i := 2) rfl, (U1.out.gr G9).cell (i := 3) rfl⟩)
                  have U0 := Lib.hid (U0.out.gr (Gr.refl wb).drew)
                  have U1 := Lib.hid (U1.out.gr (Gr.refl wb).drew)
                  have Q2D := Lib.hid (Q2f.out.gr (Gr.refl wb).drew)
                  have Q3D := Lib.hid (Q3f.out.gr (Gr.refl wb).drew)
                  have R1 := Lib.hid (ownsRow_gr (Gr.refl wb).drew R1.out)
                  have R2 := Lib.hid (ownsRow_gr (Gr.refl wb).drew R2.out)
                  have HG := Lib.hid (QGf.out.trans (Gr.refl wb).drew)
                  go_wp2_with fail
                  refine wp_region_held_drew (S := (fun w0 => w0.cell? ⟨w.heap.size, 0, none⟩ = some (.slice aH H.length cH) ∧ w0.cell? ⟨w.heap.size, 1, none⟩ = some ((.slice (some ⟨g7, 0, none⟩) (W.length + 1) cap7)) ∧ w0.cell? ⟨w.heap.size, 2, none⟩ = some (.int .u64 last) ∧ w0.cell? ⟨(w.heap.size + 1), 0, none⟩ = some (.int .i64 xs) ∧ w0.cell? ⟨(w.heap.size + 1), 1, none⟩ = some (.slice xa xl.length xc) ∧ w0.cell? ⟨(w.heap.size + 1), 2, none⟩ = some (.bool xe) ∧ w0.cell? ⟨(w.heap.size + 1), 3, none⟩ = some (.int .u64 0))) (by kernel_rfl) ?invz1z (fun h0 => ?_)
                  case invz1z => ((try dsimp only); (exact HS9.out))
                  generalize wb.drew = w9 at *
                  have q20 := Q2D.out.cell (i := 0) rfl
                  have q21 := Q2D.out.cell (i := 1) rfl
                  have q22 := Q2D.out.cell (i := 2) rfl
                  have q30 := Q3D.out.cell (i := 0) rfl
                  have q31 := Q3D.out.cell (i := 1) rfl
                  have q32 := Q3D.out.cell (i := 2) rfl
                  have q33 := Q3D.out.cell (i := 3) rfl
                  have d20 := Q2D.out.free 0
                  have d21 := Q2D.out.free 1
                  have d22 := Q2D.out.free 2
                  have d30 := Q3D.out.free 0
                  have d31 := Q3D.out.free 1
                  have d32 := Q3D.out.free 2
                  have d33 := Q3D.out.free 3
                  have A0 := Lib.hid (((U0.out.other (c := w.heap.size + 1 + 1) (by omega) 0 (.slice aH H.length cH)).other (c := w.heap.size + 1 + 1) (by omega) 1 ((.slice (some ⟨g7, 0, none⟩) (W.length + 1) cap7))).other (c := w.heap.size + 1 + 1) (by omega) 2 (.int .u64 last))
                  have A1 := Lib.hid (((U1.out.other (c := w.heap.size + 1 + 1) (by omega) 0 (.slice aH H.length cH)).other (c := w.heap.size + 1 + 1) (by omega) 1 ((.slice (some ⟨g7, 0, none⟩) (W.length + 1) cap7))).other (c := w.heap.size + 1 + 1) (by omega) 2 (.int .u64 last))
                  have B0 := Lib.hid ((((A0.out.other (c := w.heap.size + 1 + 1 + 1) (by omega) 0 (.int .i64 xs)).other (c := w.heap.size + 1 + 1 + 1) (by omega) 1 (.slice xa xl.length xc)).other (c := w.heap.size + 1 + 1 + 1) (by omega) 2 (.bool xe)).other (c := w.heap.size + 1 + 1 + 1) (by omega) 3 (.int .u64 0))
                  have B1 := Lib.hid ((((A1.out.other (c := w.heap.size + 1 + 1 + 1) (by omega) 0 (.int .i64 xs)).other (c := w.heap.size + 1 + 1 + 1) (by omega) 1 (.slice xa xl.length xc)).other (c := w.heap.size + 1 + 1 + 1) (by omega) 2 (.bool xe)).other (c := w.heap.size + 1 + 1 + 1) (by omega) 3 (.int .u64 0))
                  refine wpAnyH_take (i := 0) (oi := { dst := some 99, op := Go.Op.load 29 (Go.Operand.tmp 3), type := 29, pos := "ref.go:119", after := #[], guard := none }) (v := ?vz1z1) rfl (by kernel_rfl) (by kernel_rfl) (by kernel_rfl) (fun _ _ _ h => h) (Or.inl ⟨by rfl, ?rz1z1⟩) (by assumption) ?_
                  case rz1z1 => (intro w hSw; (try dsimp only at hSw); (go_simp <;> with_reducible rfl))
                  try simp only [Act.put, List.setIfInBounds_toArray, List.set_cons_zero, List.set_cons_succ]
                  refine wpAnyH_take (i := 1) (oi := { dst := some 100, op := Go.Op.load 71 (Go.Operand.tmp 4), type := 71, pos := "ref.go:119", after := #[⟨5, .gcOnly .lateStores⟩], guard := none }) (v := ?vz1z2) rfl (by kernel_rfl) (by kernel_rfl) (by kernel_rfl) (fun _ _ _ h => h) (Or.inl ⟨by rfl, ?rz1z2⟩) (by assumption) ?_
                  case rz1z2 => (intro w hSw; (try dsimp only at hSw); (go_simp <;> with_reducible rfl))
                  try simp only [Act.put, List.setIfInBounds_toArray, List.set_cons_zero, List.set_cons_succ]
                  refine wpAnyH_take (i := 2) (oi := { dst := some 101, op := Go.Op.fieldAddr 29 (Go.Operand.tmp 3) 1, type := 0, pos := "ref.go:119", after := #[], guard := none }) (v := ?vz1z3) rfl (by kernel_rfl) (by kernel_rfl) (by kernel_rfl) (fun _ _ _ h => h) (Or.inl ⟨by rfl, ?rz1z3⟩) (by assumption) ?_
                  case rz1z3 => (intro w hSw; (try dsimp only at hSw); (go_simp <;> with_reducible rfl))
                  try simp only [Act.put, List.setIfInBounds_toArray, List.set_cons_zero, List.set_cons_succ]
                  refine wpAnyH_take (i := 3) (oi := { dst := some 102, op := Go.Op.load 27 (Go.Operand.tmp 101), type := 27, pos := "ref.go:119", after := #[⟨2, .data⟩], guard := none }) (v := ?vz1z4) rfl (by kernel_rfl) (by kernel_rfl) (by kernel_rfl) (fun _ _ _ h => h) (Or.inl ⟨by rfl, ?rz1z4⟩) (by assumption) ?_
                  case rz1z4 => (intro w hSw; (try dsimp only at hSw); (go_simp <;> with_reducible rfl))
                  try simp only [Act.put, List.setIfInBounds_toArray, List.set_cons_zero, List.set_cons_succ]
                  refine wpAnyH_take (i := 4) (oi := { dst := some 103, op := Go.Op.call { callee := Go.Callee.builtin Go.Builtin.len, args := #[Go.Operand.tmp 102], argTypes := #[27] }, type := 3, pos := "ref.go:119", after := #[⟨3, .data⟩], guard := none }) (v := ?vz1z5) rfl (by kernel_rfl) (by kernel_rfl) (by kernel_rfl) (fun _ _ _ h => h) (Or.inl ⟨by rfl, ?rz1z5⟩) (by assumption) ?_
                  case rz1z5 => (intro w hSw; (try dsimp only at hSw); (go_simp <;> with_reducible rfl))
                  try simp only [Act.put, List.setIfInBounds_toArray, List.set_cons_zero, List.set_cons_succ]
                  refine wpAnyH_ready (rs := [5]) (by kernel_rfl) (by simp) ?_
                  refine AllReadyH.cons (o := { dst := none, op := Go.Op.store 29 (Go.Operand.tmp 6) (Go.Operand.tmp 99), type := 0, pos := "ref.go:119", after := #[⟨0, .data⟩, ⟨0, .phase⟩, ⟨1, .textOnly .lateStores⟩, ⟨2, .textOnly .lateStores⟩, ⟨3, .textOnly .lateStores⟩, ⟨4, .textOnly .lateStoresUnsure⟩], guard := none }) rfl (fun K hK => ?_) AllReadyH.nil
                  go_simp
                  skip
                  first | refine hK.out _ _ ?sz1z6 (fun h6 => ?_) | (go_wp2_with fail; refine hK.out _ _ ?sz1z6 (fun h6 => ?_))
                  case sz1z6 => ((try dsimp only); (exact ⟨A0.out.cell (i := 0) rfl, A0.out.cell (i := 1) rfl, A0.out.cell (i := 2) rfl, A1.out.cell (i := 0) rfl, A1.out.cell (i := 1) rfl, A1.out.cell (i := 2) rfl, A1.out.cell (i := 3) rfl⟩))
                  clear hK K h0
                  try simp only [Act.put, List.setIfInBounds_toArray, List.set_cons_zero, List.set_cons_succ]
                  refine wpAnyH_ready (rs := [6]) (by kernel_rfl) (by simp) ?_
                  refine AllReadyH.cons (o := { dst := none, op := Go.Op.store 71 (Go.Operand.tmp 7) (Go.Operand.tmp 100), type := 0, pos := "ref.go:119", after := #[⟨1, .data⟩, ⟨5, .chain⟩, ⟨0, .phase⟩, ⟨1, .phase⟩, ⟨2, .textOnly .lateStores⟩, ⟨3, .textOnly .lateStores⟩, ⟨4, .textOnly .lateStoresUnsure⟩, ⟨5, .phase⟩], guard := none }) rfl (fun K hK => ?_) AllReadyH.nil
                  go_simp
                  skip
                  first | refine hK.out _ _ ?sz1z7 (fun h7 => ?_) | (go_wp2_with fail; refine hK.out _ _ ?sz1z7 (fun h7 => ?_))
                  case sz1z7 => ((try dsimp only); (exact ⟨B0.out.cell (i := 0) rfl, B0.out.cell (i := 1) rfl, B0.out.cell (i := 2) rfl, B1.out.cell (i := 0) rfl, B1.out.cell (i := 1) rfl, B1.out.cell (i := 2) rfl, B1.out.cell (i := 3) rfl⟩))
                  clear hK K h6
                  try simp only [Act.put, List.setIfInBounds_toArray, List.set_cons_zero, List.set_cons_succ]
                  refine wpAnyH_take (i := 7) (oi := { dst := some 8, op := Go.Op.assign (Go.Operand.tmp 103), type := 3, pos := "ref.go:119", after := #[⟨4, .data⟩, ⟨6, .chain⟩, ⟨0, .phase⟩, ⟨1, .phase⟩, ⟨2, .phase⟩, ⟨3, .phase⟩, ⟨4, .phase⟩, ⟨5, .phase⟩, ⟨6, .phase⟩], guard := none }) (v := ?vz1z8) rfl (by kernel_rfl) (by kernel_rfl) (by kernel_rfl) (fun _ _ _ h => h) (Or.inl ⟨by rfl, ?rz1z8⟩) (by assumption) ?_
                  case rz1z8 => (intro w hSw; (try dsimp only at hSw); (go_simp <;> with_reducible rfl))
                  try simp only [Act.put, List.setIfInBounds_toArray, List.set_cons_zero, List.set_cons_succ]
                  refine wpAnyH_take (i := 8) (oi := { dst := some 9, op := Go.Op.assign (Go.Operand.const (Go.Value.int Go.IntKind.i64 0)), type := 3, pos := "ref.go:119", after := #[⟨7, .chain⟩, ⟨0, .phase⟩, ⟨1, .phase⟩, ⟨2, .phase⟩, ⟨3, .phase⟩, ⟨4, .phase⟩, ⟨5, .phase⟩, ⟨6, .phase⟩, ⟨7, .phase⟩], guard := none }) (v := ?vz1z9) rfl (by kernel_rfl) (by kernel_rfl) (by kernel_rfl) (fun _ _ _ h => h) (Or.inl ⟨by rfl, ?rz1z9⟩) (by assumption) ?_
                  case rz1z9 => (intro w hSw; (try dsimp only at hSw); (go_simp <;> with_reducible rfl))
                  try simp only [Act.put, List.setIfInBounds_toArray, List.set_cons_zero, List.set_cons_succ]
                  refine wpAnyH_done (by kernel_rfl) ?_ _
                  go_wp2
                  refine bodyPost_ret (v := .tuple #[.agg #[.slice aH H.length cH, (.slice (some ⟨g7, 0, none⟩) (W.length + 1) cap7), .int .u64 last], .agg #[.int .i64 xs, .slice xa xl.length xc, .bool xe, .int .u64 0], .int .i64 ((W.length : Int) + 1), .int .i64 0]) (by simp [results, Tryz.results24, go_sem, q20, q21, q22, q30, q31, q32, q33, d20, d21, d22, d30, d31, d32, d33]; try rfl) rfl ?_
                  rw [show q = (H, W ++ [⟨xs, xl, xa, xc, xe, 0⟩], last, ⟨xs, xl, xa, xc, xe, 0⟩, (W.length : Int) + 1, 0) from HQ.out.symm]
                  refine ⟨_, _, rfl, ⟨(ownsRow_setCell_other (a := ⟨w.heap.size + 1 + 1 + 1, 3, none⟩) (ownsRow_setCell_other (a := ⟨w.heap.size + 1 + 1 + 1, 2, none⟩) (ownsRow_setCell_other (a := ⟨w.heap.size + 1 + 1 + 1, 1, none⟩) (ownsRow_setCell_other (a := ⟨w.heap.size + 1 + 1 + 1, 0, none⟩) (ownsRow_setCell_other (a := ⟨w.heap.size + 1 + 1, 2, none⟩) (ownsRow_setCell_other (a := ⟨w.heap.size + 1 + 1, 1, none⟩) (ownsRow_setCell_other (a := ⟨w.heap.size + 1 + 1, 0, none⟩) R1.out N12.out _) N12.out _) N12.out _) N13.out _) N13.out _) N13.out _) N13.out _), fun x hx => (HRH.out.2 x hx).gr (((((((HG.out.setCell (p := ⟨w.heap.size + 1 + 1, 0, none⟩) (by simp; try omega) _).setCell (p := ⟨w.heap.size + 1 + 1, 1, none⟩) (by simp; try omega) _).setCell (p := ⟨w.heap.size + 1 + 1, 2, none⟩) (by simp; try omega) _).setCell (p := ⟨w.heap.size + 1 + 1 + 1, 0, none⟩) (by simp; try omega) _).setCell (p := ⟨w.heap.size + 1 + 1 + 1, 1, none⟩) (by simp; try omega) _).setCell (p := ⟨w.heap.size + 1 + 1 + 1, 2, none⟩) (by simp; try omega) _).setCell (p := ⟨w.heap.size + 1 + 1 + 1, 3, none⟩) (by simp; try omega) _)⟩, ⟨?_, fun x hx => ?_⟩, (((((((HG.out.setCell (p := ⟨w.heap.size + 1 + 1, 0, none⟩) (by simp; try omega) _).setCell (p := ⟨w.heap.size + 1 + 1, 1, none⟩) (by simp; try omega) _).setCell (p := ⟨w.heap.size + 1 + 1, 2, none⟩) (by simp; try omega) _).setCell (p := ⟨w.heap.size + 1 + 1 + 1, 0, none⟩) (by simp; try omega) _).setCell (p := ⟨w.heap.size + 1 + 1 + 1, 1, none⟩) (by simp; try omega) _).setCell (p := ⟨w.heap.size + 1 + 1 + 1, 2, none⟩) (by simp; try omega) _).setCell (p := ⟨w.heap.size + 1 + 1 + 1, 3, none⟩) (by simp; try omega) _)⟩
                  · rw [List.length_append, List.length_singleton, rcells_append]
                    exact (ownsRow_setCell_other (a := ⟨w.heap.size + 1 + 1 + 1, 3, none⟩) (ownsRow_setCell_other (a := ⟨w.heap.size + 1 + 1 + 1, 2, none⟩) (ownsRow_setCell_other (a := ⟨w.heap.size + 1 + 1 + 1, 1, none⟩) (ownsRow_setCell_other (a := ⟨w.heap.size + 1 + 1 + 1, 0, none⟩) (ownsRow_setCell_other (a := ⟨w.heap.size + 1 + 1, 2, none⟩) (ownsRow_setCell_other (a := ⟨w.heap.size + 1 + 1, 1, none⟩) (ownsRow_setCell_other (a := ⟨w.heap.size + 1 + 1, 0, none⟩) R2.out N22.out _) N22.out _) N22.out _) N23.out _) N23.out _) N23.out _) N23.out _)
                  · rcases List.mem_append.1 hx with hx | hx
                    · exact (HRW.out.2 x hx).gr (((((((HG.out.setCell (p := ⟨w.heap.size + 1 + 1, 0, none⟩) (by simp; try omega) _).setCell (p := ⟨w.heap.size + 1 + 1, 1, none⟩) (by simp; try omega) _).setCell (p := ⟨w.heap.size + 1 + 1, 2, none⟩) (by simp; try omega) _).setCell (p := ⟨w.heap.size + 1 + 1 + 1, 0, none⟩) (by simp; try omega) _).setCell (p := ⟨w.heap.size + 1 + 1 + 1, 1, none⟩) (by simp; try omega) _).setCell (p := ⟨w.heap.size + 1 + 1 + 1, 2, none⟩) (by simp; try omega) _).setCell (p := ⟨w.heap.size + 1 + 1 + 1, 3, none⟩) (by simp; try omega) _)
                    · rw [List.mem_singleton.1 hx]; exact (HX.out.gr (((((((HG.out.setCell (p := ⟨w.heap.size + 1 + 1, 0, none⟩) (by simp; try omega) _).setCell (p := ⟨w.heap.size + 1 + 1, 1, none⟩) (by simp; try omega) _).setCell (p := ⟨w.heap.size + 1 + 1, 2, none⟩) (by simp; try omega) _).setCell (p := ⟨w.heap.size + 1 + 1 + 1, 0, none⟩) (by simp; try omega) _).setCell (p := ⟨w.heap.size + 1 + 1 + 1, 1, none⟩) (by simp; try omega) _).setCell (p := ⟨w.heap.size + 1 + 1 + 1, 2, none⟩) (by simp; try omega) _).setCell (p := ⟨w.heap.size + 1 + 1 + 1, 3, none⟩) (by simp; try omega) _) : Strs _ xa xl)
                · skip
                  go_simp
                  skip
                  first | refine hK.out _ _ ?sq9 (fun h9 => ?_) | (go_wp2_with fail; refine hK.out _ _ ?sq9 (fun h9 => ?_))
                  case sq9 => ((try dsimp only); (first | exact HXX.out _ HG7.out | exact HXX.out _ HG5.out | exact HXX.out _ (h4.1.alloc _) | exact HXX.out _ h4.1))
                  clear hK K h4
                  try simp only [Act.put, List.setIfInBounds_toArray, List.set_cons_zero, List.set_cons_succ]
                  refine late_ready (rs := [3]) (by kernel_rfl) (by simp) ?_
                  refine LateAll.cons (o := { dst := some 94, op := Go.Op.call { callee := Go.Callee.builtin Go.Builtin.append, args := #[Go.Operand.tmp 91, Go.Operand.tmp 93], argTypes := #[27, 27] }, type := 27, pos := "ref.go:118", after := #[⟨0, .data⟩, ⟨2, .data⟩], guard := none }) rfl (fun K hK => ?_) LateAll.nil
                  refine step_append_row _ (by rfl) (.tmp 91) (.tmp 93) 27 (by rfl) we.heap.size 71 i0 (.agg #[.int .i64 0, .slice none 0 0, .bool false, .int .u64 0]) 4 48 Tryz.underlying27 hi hz0 hz1 hz2 rfl (by decide) (we.heap.size) (by rfl) ((Hm1.out.alloc _)) aW W.length cW (rcells encRL W) (by rfl) (rcells_len encRL_len W) (by rcases HSW.out with q | ⟨g9, q1, q2⟩; exact .inl q; exact .inr ⟨g9, q1, fun j u hj => h9.1.cell (QGe.out.cell (q2 j u hj))⟩) (rcells_one encRL_one W) (by unfold maxLen; omega) (by omega) h9.1.size _ rfl ?_
                  intro g5 cap5 w5 hown5 hgrow5 hat5 hlt5
                  have HG5 := Lib.hid (h9.1.append ((Hm1.out.alloc _)) hgrow5)
                  have hn5 : Blk w5 (we.heap.size + 1) #[.int .i64 xs, .slice xa xl.length xc, .bool xe, .int .u64 0] 71 := (hgrow5.block _ (by simp) (by simp [Value.ownBlock])).trans Hb1.out
                  first | refine hK.out _ _ ?sq10 (fun h10 => ?_) | (go_wp2_with fail; refine hK.out _ _ ?sq10 (fun h10 => ?_))
                  case sq10 => ((try dsimp only); (first | exact HXX.out _ HG7.out | exact HXX.out _ HG5.out | exact HXX.out _ (h9.1.alloc _) | exact HXX.out _ h9.1))
                  clear hK K h9
                  try simp only [Act.put, List.setIfInBounds_toArray, List.set_cons_zero, List.set_cons_succ]
                  refine late_ready (rs := [6]) (by kernel_rfl) (by simp) ?_
                  refine LateAll.cons (o := { dst := some 97, op := Go.Op.call { callee := Go.Callee.builtin Go.Builtin.append, args := #[Go.Operand.tmp 94, Go.Operand.tmp 96], argTypes := #[27, 27] }, type := 27, pos := "ref.go:118", after := #[⟨3, .data⟩, ⟨5, .data⟩, ⟨3, .chain⟩], guard := none }) rfl (fun K hK => ?_) LateAll.nil
                  refine step_append_lies _ (by rfl) (.tmp 94) (.tmp 96) 27 (by rfl) we.heap.size 71 i0 (.agg #[.int .i64 0, .slice none 0 0, .bool false, .int .u64 0]) 4 48 Tryz.underlying27 hi hz0 hz1 hz2 rfl (by decide) _ W.length _ (by rfl) (hown5) ⟨_, 0, none⟩ 1 1 [.int .i64 xs, .slice xa xl.length xc, .bool xe, .int .u64 0] (by rfl) (by rfl) (World.news_of_block (cs := #[.int .i64 xs, .slice xa xl.length xc, .bool xe, .int .u64 0]) (t := 71) (fr := (0, 0)) hn5) (by intro u hu; simp at hu; rcases hu with rfl | rfl | rfl | rfl <;> rfl) (by omega) (by unfold maxLen; omega) (by omega) h10.1.size _ rfl ?_
                  intro g7 cap7 w7 hown7 hgrow7 hat7 hlt7
                  have HG7 := Lib.hid (h10.1.append (hown5) hgrow7)
                  first | refine hK.out _ _ ?sq11 (fun h11 => ?_) | (go_wp2_with fail; refine hK.out _ _ ?sq11 (fun h11 => ?_))
                  case sq11 => ((try dsimp only); (first | exact HXX.out _ HG7.out | exact HXX.out _ HG5.out | exact HXX.out _ (h10.1.alloc _) | exact HXX.out _ h10.1))
                  clear hK K h10
                  try simp only [Act.put, List.setIfInBounds_toArray, List.set_cons_zero, List.set_cons_succ]
                  refine late_take (i := 7) (oi := { dst := some 98, op := Go.Op.fieldAddr 29 (Go.Operand.tmp 3) 1, type := 0, pos := "ref.go:118", after := #[⟨0, .phase⟩, ⟨1, .phase⟩, ⟨2, .phase⟩, ⟨3, .phase⟩, ⟨4, .phase⟩, ⟨5, .phase⟩, ⟨6, .phase⟩], guard := none }) (v := ?vq12) rfl (by kernel_rfl) (by kernel_rfl) (by kernel_rfl) (by kernel_rfl) (by kernel_rfl) (fun _ _ _ h => h) (Or.inl ⟨by rfl, ?rq12⟩) (by assumption) ?_
                  case rq12 => (intro w hSw; (try dsimp only at hSw); (go_simp <;> with_reducible rfl))
                  try simp only [Act.put, List.setIfInBounds_toArray, List.set_cons_zero, List.set_cons_succ]
                  have HO7 := Lib.hid hown7
                  clear hown7 hgrow7 hat7 hlt7
                  have m0 := (HG7.out.frozen (cell_lt c1) (o := 1)).trans f1
                  have K0 := Lib.hid (QBe.out.gr HG7.out)
                  have K1 := Lib.hid (QXe.out.gr HG7.out)
                  have K2 := Lib.hid (Q2e.out.gr HG7.out)
                  have K3 := Lib.hid (Q3e.out.gr HG7.out)
                  clear c1 f1 p0 p1 p2 p3
                  refine late_go (by kernel_rfl) ?_
                  refine any_one (i := 8) (o := { dst := none, op := Go.Op.store 27 (Go.Operand.tmp 98) (Go.Operand.tmp 97), type := 0, pos := "ref.go:118", after := #[⟨7, .data⟩, ⟨6, .data⟩, ⟨6, .chain⟩, ⟨0, .phase⟩, ⟨1, .phase⟩, ⟨2, .phase⟩, ⟨3, .phase⟩, ⟨4, .phase⟩, ⟨5, .phase⟩, ⟨6, .phase⟩], guard := none }) (by kernel_rfl) rfl (fun K hK => ?_)
                  go_simp
                  refine hK.out _ _ ?_
                  clear hK K
                  try simp only [Act.put, List.setIfInBounds_toArray, List.set_cons_zero, List.set_cons_succ]
                  refine any_done (by kernel_rfl) ?_
                  have R2 := Lib.hid (ownsRow_lower (ownsRow_setCell_other (a := ⟨w.heap.size, 1, none⟩) HO7.out (fun e => by have h1 : we.heap.size ≤ w.heap.size := (HO7.out.lt _ e).1; omega) (.slice (some ⟨g7, 0, none⟩) (W.length + 1) cap7)) (Nat.zero_le _))
                  have R1 := Lib.hid (ownsRow_setCell_other (a := ⟨w.heap.size, 1, none⟩) (ownsRow_gr (QGe.out.trans HG7.out) (ownsRow_lower HRH.out.1 (Nat.zero_le _))) (row_offL K0.out (ownsRow_gr (QGe.out.trans HG7.out) HRH.out.1) (by decide)) (.slice (some ⟨g7, 0, none⟩) (W.length + 1) cap7))
                  have QGf := Lib.hid ((QGe.out.trans HG7.out).setCell (p := ⟨w.heap.size, 1, none⟩) (Nat.le_refl _) (.slice (some ⟨g7, 0, none⟩) (W.length + 1) cap7))
                  have U0 : Hid (Blk (w7.setCell ⟨w.heap.size, 1, none⟩ (.slice (some ⟨g7, 0, none⟩) (W.length + 1) cap7)) w.heap.size #[.slice aH H.length cH, (.slice (some ⟨g7, 0, none⟩) (W.length + 1) cap7), .int .u64 last] 29) := Lib.hid (K0.out.set 1 _)
                  have U1 := Lib.hid (K1.out.other (c := w.heap.size) (by omega) 1 (.slice (some ⟨g7, 0, none⟩) (W.length + 1) cap7))
                  have Q2f := Lib.hid (K2.out.other (c := w.heap.size) (by omega) 1 (.slice (some ⟨g7, 0, none⟩) (W.length + 1) cap7))
                  have Q3f := Lib.hid (K3.out.other (c := w.heap.size) (by omega) 1 (.slice (some ⟨g7, 0, none⟩) (W.length + 1) cap7))
                  have N22 := Lib.hid (show (Value.slice (some ⟨g7, 0, none⟩) (W.length + 1) cap7).ownBlock ≠ some (w.heap.size + 1 + 1) from fun e => by have := (HO7.out.lt _ e).1; omega)
                  have N23 := Lib.hid (show (Value.slice (some ⟨g7, 0, none⟩) (W.length + 1) cap7).ownBlock ≠ some (w.heap.size + 1 + 1 + 1) from fun e => by have := (HO7.out.lt _ e).1; omega)
                  clear HG7 K0 K1 K2 K3 HO7 m0
                  go_upto_region 26 with fail
                  generalize w7.setCell ⟨w.heap.size, 1, none⟩ (.slice (some ⟨g7, 0, none⟩) (W.length + 1) cap7) = wb at *
                  have HS9 : Hid ((fun w0 => w0.cell? ⟨w.heap.size, 0, none⟩ = some (.slice aH H.length cH) ∧ w0.cell? ⟨w.heap.size, 1, none⟩ = some ((.slice (some ⟨g7, 0, none⟩) (W.length + 1) cap7)) ∧ w0.cell? ⟨w.heap.size, 2, none⟩ = some (.int .u64 last) ∧ w0.cell? ⟨(w.heap.size + 1), 0, none⟩ = some (.int .i64 xs) ∧ w0.cell? ⟨(w.heap.size + 1), 1, none⟩ = some (.slice xa xl.length xc) ∧ w0.cell? ⟨(w.heap.size + 1), 2, none⟩ = some (.bool xe) ∧ w0.cell? ⟨(w.heap.size + 1), 3, none⟩ = some (.int .u64 0)) wb.drew) := Lib.hid (have G9 := (Gr.refl wb).drew; ⟨(U0.out.gr G9).cell (i := 0) rfl, (U0.out.gr G9).cell (i := 1) rfl, (U0.out.gr G9).cell (i := 2) rfl, (U1.out.gr G9).cell (i := 0) rfl, (U1.out.gr G9).cell (i := 1) rfl, (U1.out.gr G9).cell (i := 2) rfl, (U1.out.gr G9).cell (i := 3) rfl⟩)
                  have U0 := Lib.hid (U0.out.gr (Gr.refl wb).drew)
                  have U1 := Lib.hid (U1.out.gr (Gr.refl wb).drew)
                  have Q2D := Lib.hid (Q2f.out.gr (Gr.refl wb).drew)
                  have Q3D := Lib.hid (Q3f.out.gr (Gr.refl wb).drew)
                  have R1 := Lib.hid (ownsRow_gr (Gr.refl wb).drew R1.out)
                  have R2 := Lib.hid (ownsRow_gr (Gr.refl wb).drew R2.out)
                  have HG := Lib.hid (QGf.out.trans (Gr.refl wb).drew)
                  go_wp2_with fail
                  refine wp_region_held_drew (S := (fun w0 => w0.cell? ⟨w.heap.size, 0, none⟩ = some (.slice aH H.length cH) ∧ w0.cell? ⟨w.heap.size, 1, none⟩ = some ((.slice (some ⟨g7, 0, none⟩) (W.length + 1) cap7)) ∧ w0.cell? ⟨w.heap.size, 2, none⟩ = some (.int .u64 last) ∧ w0.cell? ⟨(w.heap.size + 1), 0, none⟩ = some (.int .i64 xs) ∧ w0.cell? ⟨(w.heap.size + 1), 1, none⟩ = some (.slice xa xl.length xc) ∧ w0.cell? ⟨(w.heap.size + 1), 2, none⟩ = some (.bool xe) ∧ w0.cell? ⟨(w.heap.size + 1), 3, none⟩ = some (.int .u64 0))) (by kernel_rfl) ?invz2z (fun h0 => ?_)
                  case invz2z => ((try dsimp only); (exact HS9.out))
                  generalize wb.drew = w9 at *
                  have q20 := Q2D.out.cell (i := 0) rfl
                  have q21 := Q2D.out.cell (i := 1) rfl
                  have q22 := Q2D.out.cell (i := 2) rfl
                  have q30 := Q3D.out.cell (i := 0) rfl
                  have q31 := Q3D.out.cell (i := 1) rfl
                  have q32 := Q3D.out.cell (i := 2) rfl
                  have q33 := Q3D.out.cell (i := 3) rfl
                  have d20 := Q2D.out.free 0
                  have d21 := Q2D.out.free 1
                  have d22 := Q2D.out.free 2
                  have d30 := Q3D.out.free 0
                  have d31 := Q3D.out.free 1
                  have d32 := Q3D.out.free 2
                  have d33 := Q3D.out.free 3
                  have A0 := Lib.hid (((U0.out.other (c := w.heap.size + 1 + 1) (by omega) 0 (.slice aH H.length cH)).other (c := w.heap.size + 1 + 1) (by omega) 1 ((.slice (some ⟨g7, 0, none⟩) (W.length + 1) cap7))).other (c := w.heap.size + 1 + 1) (by omega) 2 (.int .u64 last))
                  have A1 := Lib.hid (((U1.out.other (c := w.heap.size + 1 + 1) (by omega) 0 (.slice aH H.length cH)).other (c := w.heap.size + 1 + 1) (by omega) 1 ((.slice (some ⟨g7, 0, none⟩) (W.length + 1) cap7))).other (c := w.heap.size + 1 + 1) (by omega) 2 (.int .u64 last))
                  have B0 := Lib.hid ((((A0.out.other (c := w.heap.size + 1 + 1 + 1) (by omega) 0 (.int .i64 xs)).other (c := w.heap.size + 1 + 1 + 1) (by omega) 1 (.slice xa xl.length xc)).other (c := w.heap.size + 1 + 1 + 1) (by omega) 2 (.bool xe)).other (c := w.heap.size + 1 + 1 + 1) (by omega) 3 (.int .u64 0))
                  have B1 := Lib.hid ((((A1.out.other (c := w.heap.size + 1 + 1 + 1) (by omega) 0 (.int .i64 xs)).other (c := w.heap.size + 1 + 1 + 1) (by omega) 1 (.slice xa xl.length xc)).other (c := w.heap.size + 1 + 1 + 1) (by omega) 2 (.bool xe)).other (c := w.heap.size + 1 + 1 + 1) (by omega) 3 (.int .u64 0))
                  refine wpAnyH_take (i := 0) (oi := { dst := some 99, op := Go.Op.load 29 (Go.Operand.tmp 3), type := 29, pos := "ref.go:119", after := #[], guard := none }) (v := ?vz2z1) rfl (by kernel_rfl) (by kernel_rfl) (by kernel_rfl) (fun _ _ _ h => h) (Or.inl ⟨by rfl, ?rz2z1⟩) (by assumption) ?_
                  case rz2z1 => (intro w hSw; (try dsimp only at hSw); (go_simp <;> with_reducible rfl))
                  try simp only [Act.put, List.setIfInBounds_toArray, List.set_cons_zero, List.set_cons_succ]
                  refine wpAnyH_take (i := 1) (oi := { dst := some 100, op := Go.Op.load 71 (Go.Operand.tmp 4), type := 71, pos := "ref.go:119", after := #[⟨5, .gcOnly .lateStores⟩], guard := none }) (v := ?vz2z2) rfl (by kernel_rfl) (by kernel_rfl) (by kernel_rfl) (fun _ _ _ h => h) (Or.inl ⟨by rfl, ?rz2z2⟩) (by assumption) ?_
                  case rz2z2 => (intro w hSw; (try dsimp only at hSw); (go_simp <;> with_reducible rfl))
                  try simp only [Act.put, List.setIfInBounds_toArray, List.set_cons_zero, List.set_cons_succ]
                  refine wpAnyH_take (i := 2) (oi := { dst := some 101, op := Go.Op.fieldAddr 29 (Go.Operand.tmp 3) 1, type := 0, pos := "ref.go:119", after := #[], guard := none }) (v := ?vz2z3) rfl (by kernel_rfl) (by kernel_rfl) (by kernel_rfl) (fun _ _ _ h => h) (Or.inl ⟨by rfl, ?rz2z3⟩) (by assumption) ?_
                  case rz2z3 => (intro w hSw; (try dsimp only at hSw); (go_simp <;> with_reducible rfl))
                  try simp only [Act.put, List.setIfInBounds_toArray, List.set_cons_zero, List.set_cons_succ]
                  refine wpAnyH_take (i := 3) (oi := { dst := some 102, op := Go.Op.load 27 (Go.Operand.tmp 101), type := 27, pos := "ref.go:119", after := #[⟨2, .data⟩], guard := none }) (v := ?vz2z4) rfl (by kernel_rfl) (by kernel_rfl) (by kernel_rfl) (fun _ _ _ h => h) (Or.inl ⟨by rfl, ?rz2z4⟩) (by assumption) ?_
                  case rz2z4 => (intro w hSw; (try dsimp only at hSw); (go_simp <;> with_reducible rfl))
                  try simp only [Act.put, List.setIfInBounds_toArray, List.set_cons_zero, List.set_cons_succ]
                  refine wpAnyH_take (i := 4) (oi := { dst := some 103, op := Go.Op.call { callee := Go.Callee.builtin Go.Builtin.len, args := #[Go.Operand.tmp 102], argTypes := #[27] }, type := 3, pos := "ref.go:119", after := #[⟨3, .data⟩], guard := none }) (v := ?vz2z5) rfl (by kernel_rfl) (by kernel_rfl) (by kernel_rfl) (fun _ _ _ h => h) (Or.inl ⟨by rfl, ?rz2z5⟩) (by assumption) ?_
                  case rz2z5 => (intro w hSw; (try dsimp only at hSw); (go_simp <;> with_reducible rfl))
                  try simp only [Act.put, List.setIfInBounds_toArray, List.set_cons_zero, List.set_cons_succ]
                  refine wpAnyH_ready (rs := [5]) (by kernel_rfl) (by simp) ?_
                  refine AllReadyH.cons (o := { dst := none, op := Go.Op.store 29 (Go.Operand.tmp 6) (Go.Operand.tmp 99), type := 0, pos := "ref.go:119", after := #[⟨0, .data⟩, ⟨0, .phase⟩, ⟨1, .textOnly .lateStores⟩, ⟨2, .textOnly .lateStores⟩, ⟨3, .textOnly .lateStores⟩, ⟨4, .textOnly .lateStoresUnsure⟩], guard := none }) rfl (fun K hK => ?_) AllReadyH.nil
                  go_simp
                  skip
                  first | refine hK.out _ _ ?sz2z6 (fun h6 => ?_) | (go_wp2_with fail; refine hK.out _ _ ?sz2z6 (fun h6 => ?_))
                  case sz2z6 => ((try dsimp only); (exact ⟨A0.out.cell (i := 0) rfl, A0.out.cell (i := 1) rfl, A0.out.cell (i := 2) rfl, A1.out.cell (i := 0) rfl, A1.out.cell (i := 1) rfl, A1.out.cell (i := 2) rfl, A1.out.cell (i := 3) rfl⟩))
                  clear hK K h0
                  try simp only [Act.put, List.setIfInBounds_toArray, List.set_cons_zero, List.set_cons_succ]
                  refine wpAnyH_ready (rs := [6]) (by kernel_rfl) (by simp) ?_
                  refine AllReadyH.cons (o := { dst := none, op := Go.Op.store 71 (Go.Operand.tmp 7) (Go.Operand.tmp 100), type := 0, pos := "ref.go:119", after := #[⟨1, .data⟩, ⟨5, .chain⟩, ⟨0, .phase⟩, ⟨1, .phase⟩, ⟨2, .textOnly .lateStores⟩, ⟨3, .textOnly .lateStores⟩, ⟨4, .textOnly .lateStoresUnsure⟩, ⟨5, .phase⟩], guard := none }) rfl (fun K hK => ?_) AllReadyH.nil
                  go_simp
                  skip
                  first | refine hK.out _ _ ?sz2z7 (fun h7 => ?_) | (go_wp2_with fail; refine hK.out _ _ ?sz2z7 (fun h7 => ?_))
                  case sz2z7 => ((try dsimp only); (exact ⟨B0.out.cell (i := 0) rfl, B0.out.cell (i := 1) rfl, B0.out.cell (i := 2) rfl, B1.out.cell (i := 0) rfl, B1.out.cell (i := 1) rfl, B1.out.cell (i := 2) rfl, B1.out.cell (i := 3) rfl⟩))
                  clear hK K h6
                  try simp only [Act.put, List.setIfInBounds_toArray, List.set_cons_zero, List.set_cons_succ]
                  refine wpAnyH_take (i := 7) (oi := { dst := some 8, op := Go.Op.assign (Go.Operand.tmp 103), type := 3, pos := "ref.go:119", after := #[⟨4, .data⟩, ⟨6, .chain⟩, ⟨0, .phase⟩, ⟨1, .phase⟩, ⟨2, .phase⟩, ⟨3, .phase⟩, ⟨4, .phase⟩, ⟨5, .phase⟩, ⟨6, .phase⟩], guard := none }) (v := ?vz2z8) rfl (by kernel_rfl) (by kernel_rfl) (by kernel_rfl) (fun _ _ _ h => h) (Or.inl ⟨by rfl, ?rz2z8⟩) (by assumption) ?_
                  case rz2z8 => (intro w hSw; (try dsimp only at hSw); (go_simp <;> with_reducible rfl))
                  try simp only [Act.put, List.setIfInBounds_toArray, List.set_cons_zero, List.set_cons_succ]
                  refine wpAnyH_take (i := 8) (oi := { dst := some 9, op := Go.Op.assign (Go.Operand.const (Go.Value.int Go.IntKind.i64 0)), type := 3, pos := "ref.go:119", after := #[⟨7, .chain⟩, ⟨0, .phase⟩, ⟨1, .phase⟩, ⟨2, .phase⟩, ⟨3, .phase⟩, ⟨4, .phase⟩, ⟨5, .phase⟩, ⟨6, .phase⟩, ⟨7, .phase⟩], guard := none }) (v := ?vz2z9) rfl (by kernel_rfl) (by kernel_rfl) (by kernel_rfl) (fun _ _ _ h => h) (Or.inl ⟨by rfl, ?rz2z9⟩) (by assumption) ?_
                  case rz2z9 => (intro w hSw; (try dsimp only at hSw); (go_simp <;> with_reducible rfl))
                  try simp only [Act.put, List.setIfInBounds_toArray, List.set_cons_zero, List.set_cons_succ]
                  refine wpAnyH_done (by kernel_rfl) ?_ _
                  go_wp2
                  refine bodyPost_ret (v := .tuple #[.agg #[.slice aH H.length cH, (.slice (some ⟨g7, 0, none⟩) (W.length + 1) cap7), .int .u64 last], .agg #[.int .i64 xs, .slice xa xl.length xc, .bool xe, .int .u64 0], .int .i64 ((W.length : Int) + 1), .int .i64 0]) (by simp [results, Tryz.results24, go_sem, q20, q21, q22, q30, q31, q32, q33, d20, d21, d22, d30, d31, d32, d33]; try rfl) rfl ?_
                  rw [show q = (H, W ++ [⟨xs, xl, xa, xc, xe, 0⟩], last, ⟨xs, xl, xa, xc, xe, 0⟩, (W.length : Int) + 1, 0) from HQ.out.symm]
                  refine ⟨_, _, rfl, ⟨(ownsRow_setCell_other (a := ⟨w.heap.size + 1 + 1 + 1, 3, none⟩) (ownsRow_setCell_other (a := ⟨w.heap.size + 1 + 1 + 1, 2, none⟩) (ownsRow_setCell_other (a := ⟨w.heap.size + 1 + 1 + 1, 1, none⟩) (ownsRow_setCell_other (a := ⟨w.heap.size + 1 + 1 + 1, 0, none⟩) (ownsRow_setCell_other (a := ⟨w.heap.size + 1 + 1, 2, none⟩) (ownsRow_setCell_other (a := ⟨w.heap.size + 1 + 1, 1, none⟩) (ownsRow_setCell_other (a := ⟨w.heap.size + 1 + 1, 0, none⟩) R1.out N12.out _) N12.out _) N12.out _) N13.out _) N13.out _) N13.out _) N13.out _), fun x hx => (HRH.out.2 x hx).gr (((((((HG.out.setCell (p := ⟨w.heap.size + 1 + 1, 0, none⟩) (by simp; try omega) _).setCell (p := ⟨w.heap.size + 1 + 1, 1, none⟩) (by simp; try omega) _).setCell (p := ⟨w.heap.size + 1 + 1, 2, none⟩) (by simp; try omega) _).setCell (p := ⟨w.heap.size + 1 + 1 + 1, 0, none⟩) (by simp; try omega) _).setCell (p := ⟨w.heap.size + 1 + 1 + 1, 1, none⟩) (by simp; try omega) _).setCell (p := ⟨w.heap.size + 1 + 1 + 1, 2, none⟩) (by simp; try omega) _).setCell (p := ⟨w.heap.size + 1 + 1 + 1, 3, none⟩) (by simp; try omega) _)⟩, ⟨?_, fun x hx => ?_⟩, (((((((HG.out.setCell (p := ⟨w.heap.size + 1 + 1, 0, none⟩) (by simp; try omega) _).setCell (p := ⟨w.heap.size + 1 + 1, 1, none⟩) (by simp; try omega) _).setCell (p := ⟨w.heap.size + 1 + 1, 2, none⟩) (by simp; try omega) _).setCell (p := ⟨w.heap.size + 1 + 1 + 1, 0, none⟩) (by simp; try omega) _).setCell (p := ⟨w.heap.size + 1 + 1 + 1, 1, none⟩) (by simp; try omega) _).setCell (p := ⟨w.heap.size + 1 + 1 + 1, 2, none⟩) (by simp; try omega) _).setCell (p := ⟨w.heap.size + 1 + 1 + 1, 3, none⟩) (by simp; try omega) _)⟩
                  · rw [List.length_append, List.length_singleton, rcells_append]
                    exact (ownsRow_setCell_other (a := ⟨w.heap.size + 1 + 1 + 1, 3, none⟩) (ownsRow_setCell_other (a := ⟨w.heap.size + 1 + 1 + 1, 2, none⟩) (ownsRow_setCell_other (a := ⟨w.heap.size + 1 + 1 + 1, 1, none⟩) (ownsRow_setCell_other (a := ⟨w.heap.size + 1 + 1 + 1, 0, none⟩) (ownsRow_setCell_other (a := ⟨w.heap.size + 1 + 1, 2, none⟩) (ownsRow_setCell_other (a := ⟨w.heap.size + 1 + 1, 1, none⟩) (ownsRow_setCell_other (a := ⟨w.heap.size + 1 + 1, 0, none⟩) R2.out N22.out _) N22.out _) N22.out _) N23.out _) N23.out _) N23.out _) N23.out _)
                  · rcases List.mem_append.1 hx with hx | hx
                    · exact (HRW.out.2 x hx).gr (((((((HG.out.setCell (p := ⟨w.heap.size + 1 + 1, 0, none⟩) (by simp; try omega) _).setCell (p := ⟨w.heap.size + 1 + 1, 1, none⟩) (by simp; try omega) _).setCell (p := ⟨w.heap.size + 1 + 1, 2, none⟩) (by simp; try omega) _).setCell (p := ⟨w.heap.size + 1 + 1 + 1, 0, none⟩) (by simp; try omega) _).setCell (p := ⟨w.heap.size + 1 + 1 + 1, 1, none⟩) (by simp; try omega) _).setCell (p := ⟨w.heap.size + 1 + 1 + 1, 2, none⟩) (by simp; try omega) _).setCell (p := ⟨w.heap.size + 1 + 1 + 1, 3, none⟩) (by simp; try omega) _)
                    · rw [List.mem_singleton.1 hx]; exact (HX.out.gr (((((((HG.out.setCell (p := ⟨w.heap.size + 1 + 1, 0, none⟩) (by simp; try omega) _).setCell (p := ⟨w.heap.size + 1 + 1, 1, none⟩) (by simp; try omega) _).setCell (p := ⟨w.heap.size + 1 + 1, 2, none⟩) (by simp; try omega) _).setCell (p := ⟨w.heap.size + 1 + 1 + 1, 0, none⟩) (by simp; try omega) _).setCell (p := ⟨w.heap.size + 1 + 1 + 1, 1, none⟩) (by simp; try omega) _).setCell (p := ⟨w.heap.size + 1 + 1 + 1, 2, none⟩) (by simp; try omega) _).setCell (p := ⟨w.heap.size + 1 + 1 + 1, 3, none⟩) (by simp; try omega) _) : Strs _ xa xl)
              · skip
                go_simp
                skip
                first | refine hK.out _ _ ?sq13 (fun h13 => ?_) | (go_wp2_with fail; refine hK.out _ _ ?sq13 (fun h13 => ?_))
                case sq13 => ((try dsimp only); (first | exact HXX.out _ HG7.out | exact HXX.out _ HG5.out | exact HXX.out _ (h0.1.alloc _) | exact HXX.out _ h0.1))
                clear hK K h0
                try simp only [Act.put, List.setIfInBounds_toArray, List.set_cons_zero, List.set_cons_succ]
                refine late_ready (rs := [0]) (by kernel_rfl) (by simp) ?_
                refine LateAll.cons (o := { dst := some 91, op := Go.Op.buildSlice 27 0 #[], type := 27, pos := "ref.go:118", after := #[], guard := none }) rfl (fun K hK => ?_) LateAll.nil
                go_simp
                skip
                first | refine hK.out _ _ ?sq14 (fun h14 => ?_) | (go_wp2_with fail; refine hK.out _ _ ?sq14 (fun h14 => ?_))
                case sq14 => ((try dsimp only); (first | exact HXX.out _ HG7.out | exact HXX.out _ HG5.out | exact HXX.out _ (h13.1.alloc _) | exact HXX.out _ h13.1))
                clear hK K h13
                try simp only [Act.put, List.setIfInBounds_toArray, List.set_cons_zero, List.set_cons_succ]
                refine late_ready (rs := [3]) (by kernel_rfl) (by simp) ?_
                refine LateAll.cons (o := { dst := some 94, op := Go.Op.call { callee := Go.Callee.builtin Go.Builtin.append, args := #[Go.Operand.tmp 91, Go.Operand.tmp 93], argTypes := #[27, 27] }, type := 27, pos := "ref.go:118", after := #[⟨0, .data⟩, ⟨2, .data⟩], guard := none }) rfl (fun K hK => ?_) LateAll.nil
                refine step_append_row _ (by rfl) (.tmp 91) (.tmp 93) 27 (by rfl) we.heap.size 71 i0 (.agg #[.int .i64 0, .slice none 0 0, .bool false, .int .u64 0]) 4 48 Tryz.underlying27 hi hz0 hz1 hz2 rfl (by decide) (we.heap.size + 1) (by rfl) (Hm2.out) aW W.length cW (rcells encRL W) (by rfl) (rcells_len encRL_len W) (by rcases HSW.out with q | ⟨g9, q1, q2⟩; exact .inl q; exact .inr ⟨g9, q1, fun j u hj => h14.1.cell (QGe.out.cell (q2 j u hj))⟩) (rcells_one encRL_one W) (by unfold maxLen; omega) (by omega) h14.1.size _ rfl ?_
                intro g5 cap5 w5 hown5 hgrow5 hat5 hlt5
                have HG5 := Lib.hid (h14.1.append (Hm2.out) hgrow5)
                have hn5 : Blk w5 we.heap.size #[.int .i64 xs, .slice xa xl.length xc, .bool xe, .int .u64 0] 71 := (hgrow5.block _ (by simp; omega) (by simp [Value.ownBlock])).trans Hb2.out
                first | refine hK.out _ _ ?sq15 (fun h15 => ?_) | (go_wp2_with fail; refine hK.out _ _ ?sq15 (fun h15 => ?_))
                case sq15 => ((try dsimp only); (first | exact HXX.out _ HG7.out | exact HXX.out _ HG5.out | exact HXX.out _ (h14.1.alloc _) | exact HXX.out _ h14.1))
                clear hK K h14
                try simp only [Act.put, List.setIfInBounds_toArray, List.set_cons_zero, List.set_cons_succ]
                refine late_ready (rs := [6]) (by kernel_rfl) (by simp) ?_
                refine LateAll.cons (o := { dst := some 97, op := Go.Op.call { callee := Go.Callee.builtin Go.Builtin.append, args := #[Go.Operand.tmp 94, Go.Operand.tmp 96], argTypes := #[27, 27] }, type := 27, pos := "ref.go:118", after := #[⟨3, .data⟩, ⟨5, .data⟩, ⟨3, .chain⟩], guard := none }) rfl (fun K hK => ?_) LateAll.nil
                refine step_append_lies _ (by rfl) (.tmp 94) (.tmp 96) 27 (by rfl) we.heap.size 71 i0 (.agg #[.int .i64 0, .slice none 0 0, .bool false, .int .u64 0]) 4 48 Tryz.underlying27 hi hz0 hz1 hz2 rfl (by decide) _ W.length _ (by rfl) (hown5) ⟨_, 0, none⟩ 1 1 [.int .i64 xs, .slice xa xl.length xc, .bool xe, .int .u64 0] (by rfl) (by rfl) (World.news_of_block (cs := #[.int .i64 xs, .slice xa xl.length xc, .bool xe, .int .u64 0]) (t := 71) (fr := (0, 0)) hn5) (by intro u hu; simp at hu; rcases hu with rfl | rfl | rfl | rfl <;> rfl) (by omega) (by unfold maxLen; omega) (by omega) h15.1.size _ rfl ?_
                intro g7 cap7 w7 hown7 hgrow7 hat7 hlt7
                have HG7 := Lib.hid (h15.1.append (hown5) hgrow7)
                first | refine hK.out _ _ ?sq16 (fun h16 => ?_) | (go_wp2_with fail; refine hK.out _ _ ?sq16 (fun h16 => ?_))
                case sq16 => ((try dsimp only); (first | exact HXX.out _ HG7.out | exact HXX.out _ HG5.out | exact HXX.out _ (h15.1.alloc _) | exact HXX.out _ h15.1))
                clear hK K h15
                try simp only [Act.put, List.setIfInBounds_toArray, List.set_cons_zero, List.set_cons_succ]
                refine late_take (i := 7) (oi := { dst := some 98, op := Go.Op.fieldAddr 29 (Go.Operand.tmp 3) 1, type := 0, pos := "ref.go:118", after := #[⟨0, .phase⟩, ⟨1, .phase⟩, ⟨2, .phase⟩, ⟨3, .phase⟩, ⟨4, .phase⟩, ⟨5, .phase⟩, ⟨6, .phase⟩], guard := none }) (v := ?vq17) rfl (by kernel_rfl) (by kernel_rfl) (by kernel_rfl) (by kernel_rfl) (by kernel_rfl) (fun _ _ _ h => h) (Or.inl ⟨by rfl, ?rq17⟩) (by assumption) ?_
                case rq17 => (intro w hSw; (try dsimp only at hSw); (go_simp <;> with_reducible rfl))
                try simp only [Act.put, List.setIfInBounds_toArray, List.set_cons_zero, List.set_cons_succ]
                have HO7 := Lib.hid hown7
                clear hown7 hgrow7 hat7 hlt7
                have m0 := (HG7.out.frozen (cell_lt c1) (o := 1)).trans f1
                have K0 := Lib.hid (QBe.out.gr HG7.out)
                have K1 := Lib.hid (QXe.out.gr HG7.out)
                have K2 := Lib.hid (Q2e.out.gr HG7.out)
                have K3 := Lib.hid (Q3e.out.gr HG7.out)
                clear c1 f1 p0 p1 p2 p3
                refine late_go (by kernel_rfl) ?_
                refine any_one (i := 8) (o := { dst := none, op := Go.Op.store 27 (Go.Operand.tmp 98) (Go.Operand.tmp 97), type := 0, pos := "ref.go:118", after := #[⟨7, .data⟩, ⟨6, .data⟩, ⟨6, .chain⟩, ⟨0, .phase⟩, ⟨1, .phase⟩, ⟨2, .phase⟩, ⟨3, .phase⟩, ⟨4, .phase⟩, ⟨5, .phase⟩, ⟨6, .phase⟩], guard := none }) (by kernel_rfl) rfl (fun K hK => ?_)
                go_simp
                refine hK.out _ _ ?_
                clear hK K
                try simp only [Act.put, List.setIfInBounds_toArray, List.set_cons_zero, List.set_cons_succ]
                refine any_done (by kernel_rfl) ?_
                have R2 := Lib.hid (ownsRow_lower (ownsRow_setCell_other (a := ⟨w.heap.size, 1, none⟩) HO7.out (fun e => by have h1 : we.heap.size ≤ w.heap.size := (HO7.out.lt _ e).1; omega) (.slice (some ⟨g7, 0, none⟩) (W.length + 1) cap7)) (Nat.zero_le _))
                have R1 := Lib.hid (ownsRow_setCell_other (a := ⟨w.heap.size, 1, none⟩) (ownsRow_gr (QGe.out.trans HG7.out) (ownsRow_lower HRH.out.1 (Nat.zero_le _))) (row_offL K0.out (ownsRow_gr (QGe.out.trans HG7.out) HRH.out.1) (by decide)) (.slice (some ⟨g7, 0, none⟩) (W.length + 1) cap7))
                have QGf := Lib.hid ((QGe.out.trans HG7.out).setCell (p := ⟨w.heap.size, 1, none⟩) (Nat.le_refl _) (.slice (some ⟨g7, 0, none⟩) (W.length + 1) cap7))
                have U0 : Hid (Blk (w7.setCell ⟨w.heap.size, 1, none⟩ (.slice (some ⟨g7, 0, none⟩) (W.length + 1) cap7)) w.heap.size #[.slice aH H.length cH, (.slice (some ⟨g7, 0, none⟩) (W.length + 1) cap7), .int .u64 last] 29) := Lib.hid (K0.out.set 1 _)
                have U1 := Lib.hid (K1.out.other (c := w.heap.size) (by omega) 1 (.slice (some ⟨g7, 0, none⟩) (W.length + 1) cap7))
                have Q2f := Lib.hid (K2.out.other (c := w.heap.size) (by omega) 1 (.slice (some ⟨g7, 0, none⟩) (W.length + 1) cap7))
                have Q3f := Lib.hid (K3.out.other (c := w.heap.size) (by omega) 1 (.slice (some ⟨g7, 0, none⟩) (W.length + 1) cap7))
                have N22 := Lib.hid (show (Value.slice (some ⟨g7, 0, none⟩) (W.length + 1) cap7).ownBlock ≠ some (w.heap.size + 1 + 1) from fun e => by have := (HO7.out.lt _ e).1; omega)
                have N23 := Lib.hid (show (Value.slice (some ⟨g7, 0, none⟩) (W.length + 1) cap7).ownBlock ≠ some (w.heap.size + 1 + 1 + 1) from fun e => by have := (HO7.out.lt _ e).1; omega)
                clear HG7 K0 K1 K2 K3 HO7 m0
                go_upto_region 26 with fail
                generalize w7.setCell ⟨w.heap.size, 1, none⟩ (.slice (some ⟨g7, 0, none⟩) (W.length + 1) cap7) = wb at *
                have HS9 : Hid ((fun w0 => w0.cell? ⟨w.heap.size, 0, none⟩ = some (.slice aH H.length cH) ∧ w0.cell? ⟨w.heap.size, 1, none⟩ = some ((.slice (some ⟨g7, 0, none⟩) (W.length + 1) cap7)) ∧ w0.cell? ⟨w.heap.size, 2, none⟩ = some (.int .u64 last) ∧ w0.cell? ⟨(w.heap.size + 1), 0, none⟩ = some (.int .i64 xs) ∧ w0.cell? ⟨(w.heap.size + 1), 1, none⟩ = some (.slice xa xl.length xc) ∧ w0.cell? ⟨(w.heap.size + 1), 2, none⟩ = some (.bool xe) ∧ w0.cell? ⟨(w.heap.size + 1), 3, none⟩ = some (.int .u64 0)) wb.drew) := Lib.hid (have G9 := (Gr.refl wb).drew; ⟨(U0.out.gr G9).cell (i := 0) rfl, (U0.out.gr G9).cell (i := 1) rfl, (U0.out.gr G9).cell (i := 2) rfl, (U1.out.gr G9).cell (i := 0) rfl, (U1.out.gr G9).cell (i := 1) rfl, (U1.out.gr G9).cell (i := 2) rfl, (U1.out.gr G9).cell (i := 3) rfl⟩)
                have U0 := Lib.hid (U0.out.gr (Gr.refl wb).drew)
                have U1 := Lib.hid (U1.out.gr (Gr.refl wb).drew)
                have Q2D := Lib.hid (Q2f.out.gr (Gr.refl wb).drew)
                have Q3D := Lib.hid (Q3f.out.gr (Gr.refl wb).drew)
                have R1 := Lib.hid (ownsRow_gr (Gr.refl wb).drew R1.out)
                have R2 := Lib.hid (ownsRow_gr (Gr.refl wb).drew R2.out)
                have HG := Lib.hid (QGf.out.trans (Gr.refl wb).drew)
                go_wp2_with fail
                refine wp_region_held_drew (S := (fun w0 => w0.cell? ⟨w.heap.size, 0, none⟩ = some (.slice aH H.length cH) ∧ w0.cell? ⟨w.heap.size, 1, none⟩ = some ((.slice (some ⟨g7, 0, none⟩) (W.length + 1) cap7)) ∧ w0.cell? ⟨w.heap.size, 2, none⟩ = some (.int .u64 last) ∧ w0.cell? ⟨(w.heap.size + 1), 0, none⟩ = some (.int .i64 xs) ∧ w0.cell? ⟨(w.heap.size + 1), 1, none⟩ = some (.slice xa xl.length xc) ∧ w0.cell? ⟨(w.heap.size + 1), 2, none⟩ = some (.bool xe) ∧ w0.cell? ⟨(w.heap.size + 1), 3, none⟩ = some (.int .u64 0))) (by kernel_rfl) ?invz3z (fun h0 => ?_)
                case invz3z => ((try dsimp only); (exact HS9.out))
                generalize wb.drew = w9 at *
                have q20 := Q2D.out.cell (i := 0) rfl
                have q21 := Q2D.out.cell (i := 1) rfl
                have q22 := Q2D.out.cell (i := 2) rfl
                have q30 := Q3D.out.cell (i := 0) rfl
                have q31 := Q3D.out.cell (i := 1) rfl
                have q32 := Q3D.out.cell (i := 2) rfl
                have q33 := Q3D.out.cell (i := 3) rfl
                have d20 := Q2D.out.free 0
                have d21 := Q2D.out.free 1
                have d22 := Q2D.out.free 2
                have d30 := Q3D.out.free 0
                have d31 := Q3D.out.free 1
                have d32 := Q3D.out.free 2
                have d33 := Q3D.out.free 3
                have A0 := Lib.hid (((U0.out.other (c := w.heap.size + 1 + 1) (by omega) 0 (.slice aH H.length cH)).other (c := w.heap.size + 1 + 1) (by omega) 1 ((.slice (some ⟨g7, 0, none⟩) (W.length + 1) cap7))).other (c := w.heap.size + 1 + 1) (by omega) 2 (.int .u64 last))
                have A1 := Lib.hid (((U1.out.other (c := w.heap.size + 1 + 1) (by omega) 0 (.slice aH H.length cH)).other (c := w.heap.size + 1 + 1) (by omega) 1 ((.slice (some ⟨g7, 0, none⟩) (W.length + 1) cap7))).other (c := w.heap.size + 1 + 1) (by omega) 2 (.int .u64 last))
                have B0 := Lib.hid ((((A0.out.other (c := w.heap.size + 1 + 1 + 1) (by omega) 0 (.int .i64 xs)).other (c := w.heap.size + 1 + 1 + 1) (by omega) 1 (.slice xa xl.length xc)).other (c := w.heap.size + 1 + 1 + 1) (by omega) 2 (.bool xe)).other (c := w.heap.size + 1 + 1 + 1) (by omega) 3 (.int .u64 0))
                have B1 := Lib.hid ((((A1.out.other (c := w.heap.size + 1 + 1 + 1) (by omega) 0 (.int .i64 xs)).other (c := w.heap.size + 1 + 1 + 1) (by omega) 1 (.slice xa xl.length xc)).other (c := w.heap.size + 1 + 1 + 1) (by omega) 2 (.bool xe)).other (c := w.heap.size + 1 + 1 + 1) (by omega) 3 (.int .u64 0))
                refine wpAnyH_take (i := 0) (oi := { dst := some 99, op := Go.Op.load 29 (Go.Operand.tmp 3), type := 29, pos := "ref.go:119", after := #[], guard := none }) (v := ?vz3z1) rfl (by kernel_rfl) (by kernel_rfl) (by kernel_rfl) (fun _ _ _ h => h) (Or.inl ⟨by rfl, ?rz3z1⟩) (by assumption) ?_
                case rz3z1 => (intro w hSw; (try dsimp only at hSw); (go_simp <;> with_reducible rfl))
                try simp only [Act.put, List.setIfInBounds_toArray, List.set_cons_zero, List.set_cons_succ]
                refine wpAnyH_take (i := 1) (oi := { dst := some 100, op := Go.Op.load 71 (Go.Operand.tmp 4), type := 71, pos := "ref.go:119", after := #[⟨5, .gcOnly .lateStores⟩], guard := none }) (v := ?vz3z2) rfl (by kernel_rfl) (by kernel_rfl) (by kernel_rfl) (fun _ _ _ h => h) (Or.inl ⟨by rfl, ?rz3z2⟩) (by assumption) ?_
                case rz3z2 => (intro w hSw; (try dsimp only at hSw); (go_simp <;> with_reducible rfl))
                try simp only [Act.put, List.setIfInBounds_toArray, List.set_cons_zero, List.set_cons_succ]
                refine wpAnyH_take (i := 2) (oi := { dst := some 101, op := Go.Op.fieldAddr 29 (Go.Operand.tmp 3) 1, type := 0, pos := "ref.go:119", after := #[], guard := none }) (v := ?vz3z3) rfl (by kernel_rfl) (by kernel_rfl) (by kernel_rfl) (fun _ _ _ h => h) (Or.inl ⟨by rfl, ?rz3z3⟩) (by assumption) ?_
                case rz3z3 => (intro w hSw; (try dsimp only at hSw); (go_simp <;> with_reducible rfl))
                try simp only [Act.put, List.setIfInBounds_toArray, List.set_cons_zero, List.set_cons_succ]
                refine wpAnyH_take (i := 3) (oi := { dst := some 102, op := Go.Op.load 27 (Go.Operand.tmp 101), type := 27, pos := "ref.go:119", after := #[⟨2, .data⟩], guard := none }) (v := ?vz3z4) rfl (by kernel_rfl) (by kernel_rfl) (by kernel_rfl) (fun _ _ _ h => h) (Or.inl ⟨by rfl, ?rz3z4⟩) (by assumption) ?_
                case rz3z4 => (intro w hSw; (try dsimp only at hSw); (go_simp <;> with_reducible rfl))
                try simp only [Act.put, List.setIfInBounds_toArray, List.set_cons_zero, List.set_cons_succ]
                refine wpAnyH_take (i := 4) (oi := { dst := some 103, op := Go.Op.call { callee := Go.Callee.builtin Go.Builtin.len, args := #[Go.Operand.tmp 102], argTypes := #[27] }, type := 3, pos := "ref.go:119", after := #[⟨3, .data⟩], guard := none }) (v := ?vz3z5) rfl (by kernel_rfl) (by kernel_rfl) (by kernel_rfl) (fun _ _ _ h => h) (Or.inl ⟨by rfl, ?rz3z5⟩) (by assumption) ?_
                case rz3z5 => (intro w hSw; (try dsimp only at hSw); (go_simp <;> with_reducible rfl))
                try simp only [Act.put, List.setIfInBounds_toArray, List.set_cons_zero, List.set_cons_succ]
                refine wpAnyH_ready (rs := [5]) (by kernel_rfl) (by simp) ?_
                refine AllReadyH.cons (o := { dst := none, op := Go.Op.store 29 (Go.Operand.tmp 6) (Go.Operand.tmp 99), type := 0, pos := "ref.go:119", after := #[⟨0, .data⟩, ⟨0, .phase⟩, ⟨1, .textOnly .lateStores⟩, ⟨2, .textOnly .lateStores⟩, ⟨3, .textOnly .lateStores⟩, ⟨4, .textOnly .lateStoresUnsure⟩], guard := none }) rfl (fun K hK => ?_) AllReadyH.nil
                go_simp
                skip
                first | refine hK.out _ _ ?sz3z6 (fun h6 => ?_) | (go_wp2_with fail; refine hK.out _ _ ?sz3z6 (fun h6 => ?_))
                case sz3z6 => ((try dsimp only); (exact ⟨A0.out.cell (i := 0) rfl, A0.out.cell (i := 1) rfl, A0.out.cell (i := 2) rfl, A1.out.cell (i := 0) rfl, A1.out.cell (i := 1) rfl, A1.out.cell (i := 2) rfl, A1.out.cell (i := 3) rfl⟩))
                clear hK K h0
                try simp only [Act.put, List.setIfInBounds_toArray, List.set_cons_zero, List.set_cons_succ]
                refine wpAnyH_ready (rs := [6]) (by kernel_rfl) (by simp) ?_
                refine AllReadyH.cons (o := { dst := none, op := Go.Op.store 71 (Go.Operand.tmp 7) (Go.Operand.tmp 100), type := 0, pos := "ref.go:119", after := #[⟨1, .data⟩, ⟨5, .chain⟩, ⟨0, .phase⟩, ⟨1, .phase⟩, ⟨2, .textOnly .lateStores⟩, ⟨3, .textOnly .lateStores⟩, ⟨4, .textOnly .lateStoresUnsure⟩, ⟨5, .phase⟩], guard := none }) rfl (fun K hK => ?_) AllReadyH.nil
                go_simp
                skip
                first | refine hK.out _ _ ?sz3z7 (fun h7 => ?_) | (go_wp2_with fail; refine hK.out _ _ ?sz3z7 (fun h7 => ?_))
                case sz3z7 => ((try dsimp only); (exact ⟨B0.out.cell (i := 0) rfl, B0.out.cell (i := 1) rfl, B0.out.cell (i := 2) rfl, B1.out.cell (i := 0) rfl, B1.out.cell (i := 1) rfl, B1.out.cell (i := 2) rfl, B1.out.cell (i := 3) rfl⟩))
                clear hK K h6
                try simp only [Act.put, List.setIfInBounds_toArray, List.set_cons_zero, List.set_cons_succ]
                refine wpAnyH_take (i := 7) (oi := { dst := some 8, op := Go.Op.assign (Go.Operand.tmp 103), type := 3, pos := "ref.go:119", after := #[⟨4, .data⟩, ⟨6, .chain⟩, ⟨0, .phase⟩, ⟨1, .phase⟩, ⟨2, .phase⟩, ⟨3, .phase⟩, ⟨4, .phase⟩, ⟨5, .phase⟩, ⟨6, .phase⟩], guard := none }) (v := ?vz3z8) rfl (by kernel_rfl) (by kernel_rfl) (by kernel_rfl) (fun _ _ _ h => h) (Or.inl ⟨by rfl, ?rz3z8⟩) (by assumption) ?_
                case rz3z8 => (intro w hSw; (try dsimp only at hSw); (go_simp <;> with_reducible rfl))
                try simp only [Act.put, List.setIfInBounds_toArray, List.set_cons_zero, List.set_cons_succ]
                refine wpAnyH_take (i := 8) (oi := { dst := some 9, op := Go.Op.assign (Go.Operand.const (Go.Value.int Go.IntKind.i64 0)), type := 3, pos := "ref.go:119", after := #[⟨7, .chain⟩, ⟨0, .phase⟩, ⟨1, .phase⟩, ⟨2, .phase⟩, ⟨3, .phase⟩, ⟨4, .phase⟩, ⟨5, .phase⟩, ⟨6, .phase⟩, ⟨7, .phase⟩], guard := none }) (v := ?vz3z9) rfl (by kernel_rfl) (by kernel_rfl) (by kernel_rfl) (fun _ _ _ h => h) (Or.inl ⟨by rfl, ?rz3z9⟩) (by assumption) ?_
                case rz3z9 => (intro w hSw; (try dsimp only at hSw); (go_simp <;> with_reducible rfl))
                try simp only [Act.put, List.setIfInBounds_toArray, List.set_cons_zero, List.set_cons_succ]
                refine wpAnyH_done (by kernel_rfl) ?_ _
                go_wp2
                refine bodyPost_ret (v := .tuple #[.agg #[.slice aH H.length cH, (.slice (some ⟨g7, 0, none⟩) (W.length + 1) cap7), .int .u64 last], .agg #[.int .i64 xs, .slice xa xl.length xc, .bool xe, .int .u64 0], .int .i64 ((W.length : Int) + 1), .int .i64 0]) (by simp [results, Tryz.results24, go_sem, q20, q21, q22, q30, q31, q32, q33, d20, d21, d22, d30, d31, d32, d33]; try rfl) rfl ?_
                rw [show q = (H, W ++ [⟨xs, xl, xa, xc, xe, 0⟩], last, ⟨xs, xl, xa, xc, xe, 0⟩, (W.length : Int) + 1, 0) from HQ.out.symm]
                refine ⟨_, _, rfl, ⟨(ownsRow_setCell_other (a := ⟨w.heap.size + 1 + 1 + 1, 3, none⟩) (ownsRow_setCell_other (a := ⟨w.heap.size + 1 + 1 + 1, 2, none⟩) (ownsRow_setCell_other (a := ⟨w.heap.size + 1 + 1 + 1, 1, none⟩) (ownsRow_setCell_other (a := ⟨w.heap.size + 1 + 1 + 1, 0, none⟩) (ownsRow_setCell_other (a := ⟨w.heap.size + 1 + 1, 2, none⟩) (ownsRow_setCell_other (a := ⟨w.heap.size + 1 + 1, 1, none⟩) (ownsRow_setCell_other (a := ⟨w.heap.size + 1 + 1, 0, none⟩) R1.out N12.out _) N12.out _) N12.out _) N13.out _) N13.out _) N13.out _) N13.out _), fun x hx => (HRH.out.2 x hx).gr (((((((HG.out.setCell (p := ⟨w.heap.size + 1 + 1, 0, none⟩) (by simp; try omega) _).setCell (p := ⟨w.heap.size + 1 + 1, 1, none⟩) (by simp; try omega) _).setCell (p := ⟨w.heap.size + 1 + 1, 2, none⟩) (by simp; try omega) _).setCell (p := ⟨w.heap.size + 1 + 1 + 1, 0, none⟩) (by simp; try omega) _).setCell (p := ⟨w.heap.size + 1 + 1 + 1, 1, none⟩) (by simp; try omega) _).setCell (p := ⟨w.heap.size + 1 + 1 + 1, 2, none⟩) (by simp; try omega) _).setCell (p := ⟨w.heap.size + 1 + 1 + 1, 3, none⟩) (by simp; try omega) _)⟩, ⟨?_, fun x hx => ?_⟩, (((((((HG.out.setCell (p := ⟨w.heap.size + 1 + 1, 0, none⟩) (by simp; try omega) _).setCell (p := ⟨w.heap.size + 1 + 1, 1, none⟩) (by simp; try omega) _).setCell (p := ⟨w.heap.size + 1 + 1, 2, none⟩) (by simp; try omega) _).setCell (p := ⟨w.heap.size + 1 + 1 + 1, 0, none⟩) (by simp; try omega) _).setCell (p := ⟨w.heap.size + 1 + 1 + 1, 1, none⟩) (by simp; try omega) _).setCell (p := ⟨w.heap.size + 1 + 1 + 1, 2, none⟩) (by simp; try omega) _).setCell (p := ⟨w.heap.size + 1 + 1 + 1, 3, none⟩) (by simp; try omega) _)⟩
                · rw [List.length_append, List.length_singleton, rcells_append]
                  exact (ownsRow_setCell_other (a := ⟨w.heap.size + 1 + 1 + 1, 3, none⟩) (ownsRow_setCell_other (a := ⟨w.heap.size + 1 + 1 + 1, 2, none⟩) (ownsRow_setCell_other (a := ⟨w.heap.size + 1 + 1 + 1, 1, none⟩) (ownsRow_setCell_other (a := ⟨w.heap.size + 1 + 1 + 1, 0, none⟩) (ownsRow_setCell_other (a := ⟨w.heap.size + 1 + 1, 2, none⟩) (ownsRow_setCell_other (a := ⟨w.heap.size + 1 + 1, 1, none⟩) (ownsRow_setCell_other (a := ⟨w.heap.size + 1 + 1, 0, none⟩) R2.out N22.out _) N22.out _) N22.out _) N23.out _) N23.out _) N23.out _) N23.out _)
                · rcases List.mem_append.1 hx with hx | hx
                  · exact (HRW.out.2 x hx).gr (((((((HG.out.setCell (p := ⟨w.heap.size + 1 + 1, 0, none⟩) (by simp; try omega) _).setCell (p := ⟨w.heap.size + 1 + 1, 1, none⟩) (by simp; try omega) _).setCell (p := ⟨w.heap.size + 1 + 1, 2, none⟩) (by simp; try omega) _).setCell (p := ⟨w.heap.size + 1 + 1 + 1, 0, none⟩) (by simp; try omega) _).setCell (p := ⟨w.heap.size + 1 + 1 + 1, 1, none⟩) (by simp; try omega) _).setCell (p := ⟨w.heap.size + 1 + 1 + 1, 2, none⟩) (by simp; try omega) _).setCell (p := ⟨w.heap.size + 1 + 1 + 1, 3, none⟩) (by simp; try omega) _)
                  · rw [List.mem_singleton.1 hx]; exact (HX.out.gr (((((((HG.out.setCell (p := ⟨w.heap.size + 1 + 1, 0, none⟩) (by simp; try omega) _).setCell (p := ⟨w.heap.size + 1 + 1, 1, none⟩) (by simp; try omega) _).setCell (p := ⟨w.heap.size + 1 + 1, 2, none⟩) (by simp; try omega) _).setCell (p := ⟨w.heap.size + 1 + 1 + 1, 0, none⟩) (by simp; try omega) _).setCell (p := ⟨w.heap.size + 1 + 1 + 1, 1, none⟩) (by simp; try omega) _).setCell (p := ⟨w.heap.size + 1 + 1 + 1, 2, none⟩) (by simp; try omega) _).setCell (p := ⟨w.heap.size + 1 + 1 + 1, 3, none⟩) (by simp; try omega) _) : Strs _ xa xl)
        · rw [hm] at HM HQ
          rw [if_pos (show true = true from rfl)] at HQ
          clear hm
          go_wp2_with fail
          refine HM.out.mono ?_
          rintro e we ⟨rfl, hg9⟩
          have QBe := Lib.hid (QBd.out.gr hg9)
          have QXe := Lib.hid (QXd.out.gr hg9)
          have Q2e := Lib.hid (Q2d.out.gr hg9)
          have Q3e := Lib.hid (Q3d.out.gr hg9)
          have QGe := Lib.hid (QGd.out.trans (hg9))
          clear hg9 HM b0 b1 b2 x0 x1 x2 x3 QBd QXd Q2d Q3d
          have b2 := QBe.out.cell (i := 2) rfl
          by_cases h9 : last = 18446744073709551615
          · have e1 : (last == 18446744073709551615) = true := by simpa using h9
            rw [if_pos h9] at HQ
            clear h9 b2
            have b0 := QBe.out.cell (i := 0) rfl
            have b1 := QBe.out.cell (i := 1) rfl
            have b2 := QBe.out.cell (i := 2) rfl
            have q20 := Q2e.out.cell (i := 0) rfl
            have q21 := Q2e.out.cell (i := 1) rfl
            have q22 := Q2e.out.cell (i := 2) rfl
            have q30 := Q3e.out.cell (i := 0) rfl
            have q31 := Q3e.out.cell (i := 1) rfl
            have q32 := Q3e.out.cell (i := 2) rfl
            have q33 := Q3e.out.cell (i := 3) rfl
            have d20 := Q2e.out.free 0
            have d21 := Q2e.out.free 1
            have d22 := Q2e.out.free 2
            have d30 := Q3e.out.free 0
            have d31 := Q3e.out.free 1
            have d32 := Q3e.out.free 2
            have d33 := Q3e.out.free 3
            have R1 := Lib.hid (ownsRow_gr QGe.out (ownsRow_lower HRH.out.1 (Nat.zero_le _)))
            have R2 := Lib.hid (ownsRow_gr QGe.out (ownsRow_lower HRW.out.1 (Nat.zero_le _)))
            go_wp2
            refine bodyPost_ret (v := .tuple #[.agg #[.slice aH H.length cH, .slice aW W.length cW, .int .u64 last], .agg #[.int .i64 0, .slice none 0 0, .bool false, .int .u64 0], .int .i64 0, .int .i64 19]) (by simp [results, Tryz.results24, go_sem, q20, q21, q22, q30, q31, q32, q33, d20, d21, d22, d30, d31, d32, d33]; try rfl) rfl ?_
            rw [show q = (H, W, last, zRL, 0, 19) from HQ.out.symm]
            exact ⟨_, _, rfl, ⟨(ownsRow_setCell_other (a := ⟨w.heap.size + 1 + 1 + 1, 3, none⟩) (ownsRow_setCell_other (a := ⟨w.heap.size + 1 + 1 + 1, 2, none⟩) (ownsRow_setCell_other (a := ⟨w.heap.size + 1 + 1 + 1, 1, none⟩) (ownsRow_setCell_other (a := ⟨w.heap.size + 1 + 1 + 1, 0, none⟩) (ownsRow_setCell_other (a := ⟨w.heap.size + 1 + 1, 2, none⟩) (ownsRow_setCell_other (a := ⟨w.heap.size + 1 + 1, 1, none⟩) (ownsRow_setCell_other (a := ⟨w.heap.size + 1 + 1, 0, none⟩) R1.out N12.out _) N12.out _) N12.out _) N13.out _) N13.out _) N13.out _) N13.out _), fun x hx => (HRH.out.2 x hx).gr (((((((QGe.out.setCell (p := ⟨w.heap.size + 1 + 1, 0, none⟩) (by simp; try omega) _).setCell (p := ⟨w.heap.size + 1 + 1, 1, none⟩) (by simp; try omega) _).setCell (p := ⟨w.heap.size + 1 + 1, 2, none⟩) (by simp; try omega) _).setCell (p := ⟨w.heap.size + 1 + 1 + 1, 0, none⟩) (by simp; try omega) _).setCell (p := ⟨w.heap.size + 1 + 1 + 1, 1, none⟩) (by simp; try omega) _).setCell (p := ⟨w.heap.size + 1 + 1 + 1, 2, none⟩) (by simp; try omega) _).setCell (p := ⟨w.heap.size + 1 + 1 + 1, 3, none⟩) (by simp; try omega) _)⟩, ⟨(ownsRow_setCell_other (a := ⟨w.heap.size + 1 + 1 + 1, 3, none⟩) (ownsRow_setCell_other (a := ⟨w.heap.size + 1 + 1 + 1, 2, none⟩) (ownsRow_setCell_other (a := ⟨w.heap.size + 1 + 1 + 1, 1, none⟩) (ownsRow_setCell_other (a := ⟨w.heap.size + 1 + 1 + 1, 0, none⟩) (ownsRow_setCell_other (a := ⟨w.heap.size + 1 + 1, 2, none⟩) (ownsRow_setCell_other (a := ⟨w.heap.size + 1 + 1, 1, none⟩) (ownsRow_setCell_other (a := ⟨w.heap.size + 1 + 1, 0, none⟩) R2.out N22.out _) N22.out _) N22.out _) N23.out _) N23.out _) N23.out _) N23.out _), fun x hx => (HRW.out.2 x hx).gr (((((((QGe.out.setCell (p := ⟨w.heap.size + 1 + 1, 0, none⟩) (by simp; try omega) _).setCell (p := ⟨w.heap.size + 1 + 1, 1, none⟩) (by simp; try omega) _).setCell (p := ⟨w.heap.size + 1 + 1, 2, none⟩) (by simp; try omega) _).setCell (p := ⟨w.heap.size + 1 + 1 + 1, 0, none⟩) (by simp; try omega) _).setCell (p := ⟨w.heap.size + 1 + 1 + 1, 1, none⟩) (by simp; try omega) _).setCell (p := ⟨w.heap.size + 1 + 1 + 1, 2, none⟩) (by simp; try omega) _).setCell (p := ⟨w.heap.size + 1 + 1 + 1, 3, none⟩) (by simp; try omega) _)⟩, (((((((QGe.out.setCell (p := ⟨w.heap.size + 1 + 1, 0, none⟩) (by simp; try omega) _).setCell (p := ⟨w.heap.size + 1 + 1, 1, none⟩) (by simp; try omega) _).setCell (p := ⟨w.heap.size + 1 + 1, 2, none⟩) (by simp; try omega) _).setCell (p := ⟨w.heap.size + 1 + 1 + 1, 0, none⟩) (by simp; try omega) _).setCell (p := ⟨w.heap.size + 1 + 1 + 1, 1, none⟩) (by simp; try omega) _).setCell (p := ⟨w.heap.size + 1 + 1 + 1, 2, none⟩) (by simp; try omega) _).setCell (p := ⟨w.heap.size + 1 + 1 + 1, 3, none⟩) (by simp; try omega) _)⟩
          · have e1 : (last == 18446744073709551615) = false := by simpa using h9
            rw [if_neg h9] at HQ
            have HNE := Lib.hid h9
            clear h9
            go_upto_region 19 with fail
            have b0 := QBe.out.cell (i := 0) rfl
            have b1 := QBe.out.cell (i := 1) rfl
            have x0 := QXe.out.cell (i := 0) rfl
            have x1 := QXe.out.cell (i := 1) rfl
            have x2 := QXe.out.cell (i := 2) rfl
            have x3 := QXe.out.cell (i := 3) rfl
            go_wp2_with fail
            refine (refGrant_any H ⟨xs, xl, xa, xc, xe, 0⟩ we (HRH.out.gr QGe.out) (HX.out.gr QGe.out : Strs we xa xl) (by omega) (by have := HT.out; have := HNE.out; omega)).mono ?_
            rintro e wa ⟨v', rfl, hr6, hg6⟩
            obtain ⟨a6, c6, rfl, _⟩ := ownsRow_slice hr6.1
            have hs9 : w.heap.size + 1 + 1 + 1 < we.heap.size := Q3e.out.lt
            have HL6 := Lib.hid (show (H ++ [RL.tokd ⟨xs, xl, xa, xc, xe, 0⟩ (last + 1)]).length = H.length + 1 by rw [List.length_append, List.length_singleton])
            have z1 : ∀ (w : World) (o : Obj), (w.alloc o).heap.size = w.heap.size + 1 := fun w o => by simp
            have hga := ((Gr.refl wa).alloc (.cells #[.slice a6 (H.length + 1) c6, .slice aW W.length cW, .int .u64 (last + 1)] 29)).alloc (.cells #[.int .i64 xs, .slice xa xl.length xc, .bool xe, .int .u64 (last + 1)] 71)
            have U0 := Lib.hid ((Blk.new wa #[.slice a6 (H.length + 1) c6, .slice aW W.length cW, .int .u64 (last + 1)] 29).gr ((Gr.refl _).alloc (.cells #[.int .i64 xs, .slice xa xl.length xc, .bool xe, .int .u64 (last + 1)] 71)))
            have U1 := Lib.hid (Blk.new (wa.alloc (.cells #[.slice a6 (H.length + 1) c6, .slice aW W.length cW, .int .u64 (last + 1)] 29)) #[.int .i64 xs, .slice xa xl.length xc, .bool xe, .int .u64 (last + 1)] 71)
            rw [z1] at U1
            have hsa : we.heap.size ≤ wa.heap.size := hg6.size
            have Q2f := Lib.hid (Q2e.out.gr (hg6.trans hga))
            have Q3f := Lib.hid (Q3e.out.gr (hg6.trans hga))
            have QGf := Lib.hid (QGe.out.trans (hg6.trans hga))
            have R1 := Lib.hid (ownsRow_gr hga (show wa.ownsRow 0 71 4 (.slice a6 (H.length + 1) c6) (H ++ [RL.tokd ⟨xs, xl, xa, xc, xe, 0⟩ (last + 1)]).length (rcells encRL (H ++ [RL.tokd ⟨xs, xl, xa, xc, xe, 0⟩ (last + 1)])) by have h9 := ownsRow_lower hr6.1 (Nat.zero_le _); rw [HL6.out] at h9 ⊢; exact h9))
            have R2 := Lib.hid (ownsRow_gr QGf.out (ownsRow_lower HRW.out.1 (Nat.zero_le _)))
            have N12 := Lib.hid (show (Value.slice a6 (H.length + 1) c6).ownBlock ≠ some (w.heap.size + 1 + 1) from fun e => by have := (hr6.1.lt _ (show (Value.slice a6 (H ++ [RL.tokd ⟨xs, xl, xa, xc, xe, 0⟩ (last + 1)]).length c6).ownBlock = some (w.heap.size + 1 + 1) from by cases a6 <;> simp_all [Value.ownBlock])).1; omega)
            have N13 := Lib.hid (show (Value.slice a6 (H.length + 1) c6).ownBlock ≠ some (w.heap.size + 1 + 1 + 1) from fun e => by have := (hr6.1.lt _ (show (Value.slice a6 (H ++ [RL.tokd ⟨xs, xl, xa, xc, xe, 0⟩ (last + 1)]).length c6).ownBlock = some (w.heap.size + 1 + 1 + 1) from by cases a6 <;> simp_all [Value.ownBlock])).1; omega)
            clear b0 b1 b2 x0 x1 x2 x3 e1 hga hr6 hg6 z1 QBe QXe Q2e Q3e QGe
            go_upto_region 20 with fail
            generalize (wa.alloc (.cells #[.slice a6 (H.length + 1) c6, .slice aW W.length cW, .int .u64 (last + 1)] 29)).alloc (.cells #[.int .i64 xs, .slice xa xl.length xc, .bool xe, .int .u64 (last + 1)] 71) = wb at *
            generalize wa.heap.size = ca at *
            have hca : w.heap.size + 1 + 1 + 1 < ca := by omega
            clear hs9 hsa
            have HS9 : Hid ((fun w0 => w0.cell? ⟨ca, 0, none⟩ = some (.slice a6 (H.length + 1) c6) ∧ w0.cell? ⟨ca, 1, none⟩ = some (.slice aW W.length cW) ∧ w0.cell? ⟨ca, 2, none⟩ = some (.int .u64 (last + 1)) ∧ w0.cell? ⟨(ca + 1), 0, none⟩ = some (.int .i64 xs) ∧ w0.cell? ⟨(ca + 1), 1, none⟩ = some (.slice xa xl.length xc) ∧ w0.cell? ⟨(ca + 1), 2, none⟩ = some (.bool xe) ∧ w0.cell? ⟨(ca + 1), 3, none⟩ = some (.int .u64 (last + 1))) wb.drew) := Lib.hid (have G9 := (Gr.refl wb).drew; ⟨(U0.out.gr G9).cell (i := 0) rfl, (U0.out.gr G9).cell (i := 1) rfl, (U0.out.gr G9).cell (i := 2) rfl, (U1.out.gr G9).cell (i := 0) rfl, (U1.out.gr G9).cell (i := 1) rfl, (U1.out.gr G9).cell (i := 2) rfl, (U1.out.gr G9).cell (i := 3) rfl⟩)
            have U0 := Lib.hid (U0.out.gr (Gr.refl wb).drew)
            have U1 := Lib.hid (U1.out.gr (Gr.refl wb).drew)
            have Q2D := Lib.hid (Q2f.out.gr (Gr.refl wb).drew)
            have Q3D := Lib.hid (Q3f.out.gr (Gr.refl wb).drew)
            have R1 := Lib.hid (ownsRow_gr (Gr.refl wb).drew R1.out)
            have R2 := Lib.hid (ownsRow_gr (Gr.refl wb).drew R2.out)
            have HG := Lib.hid (QGf.out.trans (Gr.refl wb).drew)
            go_wp2_with fail
            refine wp_region_held_drew (S := (fun w0 => w0.cell? ⟨ca, 0, none⟩ = some (.slice a6 (H.length + 1) c6) ∧ w0.cell? ⟨ca, 1, none⟩ = some (.slice aW W.length cW) ∧ w0.cell? ⟨ca, 2, none⟩ = some (.int .u64 (last + 1)) ∧ w0.cell? ⟨(ca + 1), 0, none⟩ = some (.int .i64 xs) ∧ w0.cell? ⟨(ca + 1), 1, none⟩ = some (.slice xa xl.length xc) ∧ w0.cell? ⟨(ca + 1), 2, none⟩ = some (.bool xe) ∧ w0.cell? ⟨(ca + 1), 3, none⟩ = some (.int .u64 (last + 1)))) (by kernel_rfl) ?invr20 (fun h0 => ?_)
            case invr20 => ((try dsimp only); (exact HS9.out))
            generalize wb.drew = w9 at *
            have q20 := Q2D.out.cell (i := 0) rfl
            have q21 := Q2D.out.cell (i := 1) rfl
            have q22 := Q2D.out.cell (i := 2) rfl
            have q30 := Q3D.out.cell (i := 0) rfl
            have q31 := Q3D.out.cell (i := 1) rfl
            have q32 := Q3D.out.cell (i := 2) rfl
            have q33 := Q3D.out.cell (i := 3) rfl
            have d20 := Q2D.out.free 0
            have d21 := Q2D.out.free 1
            have d22 := Q2D.out.free 2
            have d30 := Q3D.out.free 0
            have d31 := Q3D.out.free 1
            have d32 := Q3D.out.free 2
            have d33 := Q3D.out.free 3
            have A0 := Lib.hid (((U0.out.other (c := w.heap.size + 1 + 1) (by omega) 0 (.slice a6 (H.length + 1) c6)).other (c := w.heap.size + 1 + 1) (by omega) 1 (.slice aW W.length cW)).other (c := w.heap.size + 1 + 1) (by omega) 2 (.int .u64 (last + 1)))
            have A1 := Lib.hid (((U1.out.other (c := w.heap.size + 1 + 1) (by omega) 0 (.slice a6 (H.length + 1) c6)).other (c := w.heap.size + 1 + 1) (by omega) 1 (.slice aW W.length cW)).other (c := w.heap.size + 1 + 1) (by omega) 2 (.int .u64 (last + 1)))
            have B0 := Lib.hid ((((A0.out.other (c := w.heap.size + 1 + 1 + 1) (by omega) 0 (.int .i64 xs)).other (c := w.heap.size + 1 + 1 + 1) (by omega) 1 (.slice xa xl.length xc)).other (c := w.heap.size + 1 + 1 + 1) (by omega) 2 (.bool xe)).other (c := w.heap.size + 1 + 1 + 1) (by omega) 3 (.int .u64 (last + 1)))
            have B1 := Lib.hid ((((A1.out.other (c := w.heap.size + 1 + 1 + 1) (by omega) 0 (.int .i64 xs)).other (c := w.heap.size + 1 + 1 + 1) (by omega) 1 (.slice xa xl.length xc)).other (c := w.heap.size + 1 + 1 + 1) (by omega) 2 (.bool xe)).other (c := w.heap.size + 1 + 1 + 1) (by omega) 3 (.int .u64 (last + 1)))
            refine wpAnyH_take (i := 0) (oi := { dst := some 79, op := Go.Op.load 29 (Go.Operand.tmp 15), type := 29, pos := "ref.go:110", after := #[], guard := none }) (v := ?vr201) rfl (by kernel_rfl) (by kernel_rfl) (by kernel_rfl) (fun _ _ _ h => h) (Or.inl ⟨by rfl, ?rr201⟩) (by assumption) ?_
            case rr201 => (intro w hSw; (try dsimp only at hSw); (go_simp <;> with_reducible rfl))
            try simp only [Act.put, List.setIfInBounds_toArray, List.set_cons_zero, List.set_cons_succ]
            refine wpAnyH_take (i := 1) (oi := { dst := some 80, op := Go.Op.load 71 (Go.Operand.tmp 16), type := 71, pos := "ref.go:110", after := #[⟨2, .gcOnly .lateStores⟩], guard := none }) (v := ?vr202) rfl (by kernel_rfl) (by kernel_rfl) (by kernel_rfl) (fun _ _ _ h => h) (Or.inl ⟨by rfl, ?rr202⟩) (by assumption) ?_
            case rr202 => (intro w hSw; (try dsimp only at hSw); (go_simp <;> with_reducible rfl))
            try simp only [Act.put, List.setIfInBounds_toArray, List.set_cons_zero, List.set_cons_succ]
            refine wpAnyH_ready (rs := [2]) (by kernel_rfl) (by simp) ?_
            refine AllReadyH.cons (o := { dst := none, op := Go.Op.store 29 (Go.Operand.tmp 6) (Go.Operand.tmp 79), type := 0, pos := "ref.go:110", after := #[⟨0, .data⟩, ⟨0, .phase⟩, ⟨1, .textOnly .lateStores⟩], guard := none }) rfl (fun K hK => ?_) AllReadyH.nil
            go_simp
            skip
            first | refine hK.out _ _ ?sr203 (fun h3 => ?_) | (go_wp2_with fail; refine hK.out _ _ ?sr203 (fun h3 => ?_))
            case sr203 => ((try dsimp only); (exact ⟨A0.out.cell (i := 0) rfl, A0.out.cell (i := 1) rfl, A0.out.cell (i := 2) rfl, A1.out.cell (i := 0) rfl, A1.out.cell (i := 1) rfl, A1.out.cell (i := 2) rfl, A1.out.cell (i := 3) rfl⟩))
            clear hK K h0
            try simp only [Act.put, List.setIfInBounds_toArray, List.set_cons_zero, List.set_cons_succ]
            refine wpAnyH_ready (rs := [3]) (by kernel_rfl) (by simp) ?_
            refine AllReadyH.cons (o := { dst := none, op := Go.Op.store 71 (Go.Operand.tmp 7) (Go.Operand.tmp 80), type := 0, pos := "ref.go:110", after := #[⟨1, .data⟩, ⟨2, .chain⟩, ⟨0, .phase⟩, ⟨1, .phase⟩, ⟨2, .phase⟩], guard := none }) rfl (fun K hK => ?_) AllReadyH.nil
            go_simp
            skip
            first | refine hK.out _ _ ?sr204 (fun h4 => ?_) | (go_wp2_with fail; refine hK.out _ _ ?sr204 (fun h4 => ?_))
            case sr204 => ((try dsimp only); (exact ⟨B0.out.cell (i := 0) rfl, B0.out.cell (i := 1) rfl, B0.out.cell (i := 2) rfl, B1.out.cell (i := 0) rfl, B1.out.cell (i := 1) rfl, B1.out.cell (i := 2) rfl, B1.out.cell (i := 3) rfl⟩))
            clear hK K h3
            try simp only [Act.put, List.setIfInBounds_toArray, List.set_cons_zero, List.set_cons_succ]
            refine wpAnyH_take (i := 4) (oi := { dst := some 8, op := Go.Op.assign (Go.Operand.const (Go.Value.int Go.IntKind.i64 0)), type := 3, pos := "ref.go:110", after := #[⟨3, .chain⟩, ⟨0, .phase⟩, ⟨1, .phase⟩, ⟨2, .phase⟩, ⟨3, .phase⟩], guard := none }) (v := ?vr205) rfl (by kernel_rfl) (by kernel_rfl) (by kernel_rfl) (fun _ _ _ h => h) (Or.inl ⟨by rfl, ?rr205⟩) (by assumption) ?_
            case rr205 => (intro w hSw; (try dsimp only at hSw); (go_simp <;> with_reducible rfl))
            try simp only [Act.put, List.setIfInBounds_toArray, List.set_cons_zero, List.set_cons_succ]
            refine wpAnyH_take (i := 5) (oi := { dst := some 9, op := Go.Op.assign (Go.Operand.const (Go.Value.int Go.IntKind.i64 0)), type := 3, pos := "ref.go:110", after := #[⟨4, .chain⟩, ⟨0, .phase⟩, ⟨1, .phase⟩, ⟨2, .phase⟩, ⟨3, .phase⟩, ⟨4, .phase⟩], guard := none }) (v := ?vr206) rfl (by kernel_rfl) (by kernel_rfl) (by kernel_rfl) (fun _ _ _ h => h) (Or.inl ⟨by rfl, ?rr206⟩) (by assumption) ?_
            case rr206 => (intro w hSw; (try dsimp only at hSw); (go_simp <;> with_reducible rfl))
            try simp only [Act.put, List.setIfInBounds_toArray, List.set_cons_zero, List.set_cons_succ]
            refine wpAnyH_done (by kernel_rfl) ?_ _
            go_wp2
            refine bodyPost_ret (v := .tuple #[.agg #[.slice a6 (H.length + 1) c6, .slice aW W.length cW, .int .u64 (last + 1)], .agg #[.int .i64 xs, .slice xa xl.length xc, .bool xe, .int .u64 (last + 1)], .int .i64 0, .int .i64 0]) (by simp [results, Tryz.results24, go_sem, q20, q21, q22, q30, q31, q32, q33, d20, d21, d22, d30, d31, d32, d33]; try rfl) rfl ?_
            rw [show q = (H ++ [⟨xs, xl, xa, xc, xe, last + 1⟩], W, last + 1, ⟨xs, xl, xa, xc, xe, last + 1⟩, 0, 0) from HQ.out.symm]
            refine ⟨_, _, rfl, ⟨(ownsRow_setCell_other (a := ⟨w.heap.size + 1 + 1 + 1, 3, none⟩) (ownsRow_setCell_other (a := ⟨w.heap.size + 1 + 1 + 1, 2, none⟩) (ownsRow_setCell_other (a := ⟨w.heap.size + 1 + 1 + 1, 1, none⟩) (ownsRow_setCell_other (a := ⟨w.heap.size + 1 + 1 + 1, 0, none⟩) (ownsRow_setCell_other (a := ⟨w.heap.size + 1 + 1, 2, none⟩) (ownsRow_setCell_other (a := ⟨w.heap.size + 1 + 1, 1, none⟩) (ownsRow_setCell_other (a := ⟨w.heap.size + 1 + 1, 0, none⟩) R1.out N12.out _) N12.out _) N12.out _) N13.out _) N13.out _) N13.out _) N13.out _), fun x hx => ?_⟩, ⟨(ownsRow_setCell_other (a := ⟨w.heap.size + 1 + 1 + 1, 3, none⟩) (ownsRow_setCell_other (a := ⟨w.heap.size + 1 + 1 + 1, 2, none⟩) (ownsRow_setCell_other (a := ⟨w.heap.size + 1 + 1 + 1, 1, none⟩) (ownsRow_setCell_other (a := ⟨w.heap.size + 1 + 1 + 1, 0, none⟩) (ownsRow_setCell_other (a := ⟨w.heap.size + 1 + 1, 2, none⟩) (ownsRow_setCell_other (a := ⟨w.heap.size + 1 + 1, 1, none⟩) (ownsRow_setCell_other (a := ⟨w.heap.size + 1 + 1, 0, none⟩) R2.out N22.out _) N22.out _) N22.out _) N23.out _) N23.out _) N23.out _) N23.out _), fun x hx => (HRW.out.2 x hx).gr (((((((HG.out.setCell (p := ⟨w.heap.size + 1 + 1, 0, none⟩) (by simp; try omega) _).setCell (p := ⟨w.heap.size + 1 + 1, 1, none⟩) (by simp; try omega) _).setCell (p := ⟨w.heap.size + 1 + 1, 2, none⟩) (by simp; try omega) _).setCell (p := ⟨w.heap.size + 1 + 1 + 1, 0, none⟩) (by simp; try omega) _).setCell (p := ⟨w.heap.size + 1 + 1 + 1, 1, none⟩) (by simp; try omega) _).setCell (p := ⟨w.heap.size + 1 + 1 + 1, 2, none⟩) (by simp; try omega) _).setCell (p := ⟨w.heap.size + 1 + 1 + 1, 3, none⟩) (by simp; try omega) _)⟩, (((((((HG.out.setCell (p := ⟨w.heap.size + 1 + 1, 0, none⟩) (by simp; try omega) _).setCell (p := ⟨w.heap.size + 1 + 1, 1, none⟩) (by simp; try omega) _).setCell (p := ⟨w.heap.size + 1 + 1, 2, none⟩) (by simp; try omega) _).setCell (p := ⟨w.heap.size + 1 + 1 + 1, 0, none⟩) (by simp; try omega) _).setCell (p := ⟨w.heap.size + 1 + 1 + 1, 1, none⟩) (by simp; try omega) _).setCell (p := ⟨w.heap.size + 1 + 1 + 1, 2, none⟩) (by simp; try omega) _).setCell (p := ⟨w.heap.size + 1 + 1 + 1, 3, none⟩) (by simp; try omega) _)⟩
            rcases List.mem_append.1 hx with hx | hx
            · exact (HRH.out.2 x hx).gr (((((((HG.out.setCell (p := ⟨w.heap.size + 1 + 1, 0, none⟩) (by simp; try omega) _).setCell (p := ⟨w.heap.size + 1 + 1, 1, none⟩) (by simp; try omega) _).setCell (p := ⟨w.heap.size + 1 + 1, 2, none⟩) (by simp; try omega) _).setCell (p := ⟨w.heap.size + 1 + 1 + 1, 0, none⟩) (by simp; try omega) _).setCell (p := ⟨w.heap.size + 1 + 1 + 1, 1, none⟩) (by simp; try omega) _).setCell (p := ⟨w.heap.size + 1 + 1 + 1, 2, none⟩) (by simp; try omega) _).setCell (p := ⟨w.heap.size + 1 + 1 + 1, 3, none⟩) (by simp; try omega) _)
            · rw [List.mem_singleton.1 hx]; exact (HX.out.gr (((((((HG.out.setCell (p := ⟨w.heap.size + 1 + 1, 0, none⟩) (by simp; try omega) _).setCell (p := ⟨w.heap.size + 1 + 1, 1, none⟩) (by simp; try omega) _).setCell (p := ⟨w.heap.size + 1 + 1, 2, none⟩) (by simp; try omega) _).setCell (p := ⟨w.heap.size + 1 + 1 + 1, 0, none⟩) (by simp; try omega) _).setCell (p := ⟨w.heap.size + 1 + 1 + 1, 1, none⟩) (by simp; try omega) _).setCell (p := ⟨w.heap.size + 1 + 1 + 1, 2, none⟩) (by simp; try omega) _).setCell (p := ⟨w.heap.size + 1 + 1 + 1, 3, none⟩) (by simp; try omega) _) : Strs _ xa xl)
end Go.Proofs.YtmgpnpmdmelnkaaGreatDoor
