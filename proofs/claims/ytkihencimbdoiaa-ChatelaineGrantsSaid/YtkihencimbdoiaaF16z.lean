import Derived.Test.YtkihencimbdoiaaF16y
import Derived.Test.YtkihencimbdoiaaF16s
import Derived.WalkKit
import Derived.ProofKit
import Derived.LoopTactic
import Derived.Outline
import Derived.WalkSpells
import Derived.WalkLawsBesides
import Derived.Lib.Hide
import Derived.Deep.LoopGhost
import Derived.Deep.QuietTactic
import Derived.BigQuiet
import Derived.ShutString
import Derived.IntWalk
import Derived.BigQuiet
import Derived.Laws.OwnMore
import Derived.Deep.RegionWith
import Derived.Deep.RegionHeld3
namespace Go.Proofs.Ytkihencimbdoiaa
open Go.ChangeShapes Go.WideShapes Go.ChangeAt Go.RowKit
open Bal
set_option linter.unusedVariables false
set_option linter.unusedSimpArgs false
set_option maxRecDepth 100000 in
set_option maxHeartbeats 2000000 in
theorem trim_low {base b : Nat} {v : Value} {wit : Bool} {pc pn ba to til : Int} {L : List E} (x : Int) (w : World) (h : Blk w b #[.bool wit, .int .u64 pc, .int .i64 pn, .int .i64 ba, v, .int .i64 to, .int .i64 til] 100) (hx : x ≤ ba) :
    Calls Try.prog 17 #[.pointer (some ⟨b, 0, none⟩), .int .i64 x] w fun e w' => e = .returned (.bool false) ∧ Gr w w' := by
  have HG := Lib.hid ((Gr.refl w).alloc (.cells #[.int .i64 x] 3))
  have HA := Lib.hid (h.gr HG.out)
  have c0 := (Blk.new w #[.int .i64 x] 3).cell (i := 0) rfl
  have b3 := HA.out.cell (i := 3) rfl
  have HX := Lib.hid hx
  clear h hx
  go_enter Try.func17, Try.ntmps17
  go_wp2_with fail
  generalize w.alloc (.cells #[.int .i64 x] 3) = wa at *
  generalize w.heap.size = p at *
  refine wp_region_held_drew (S := (fun w9 => w9.cell? ⟨p, 0, none⟩ = some (.int .i64 x) ∧ w9.cell? ⟨b, 3, none⟩ = some (.int .i64 ba))) (by kernel_rfl) ?inva (fun h0 => ?_)
  case inva => ((try dsimp only); (exact ⟨c0, b3⟩))
  refine wpAnyH_take (i := 0) (oi := { dst := some 5, op := Go.Op.load 3 (Go.Operand.tmp 3), type := 3, pos := "accept.go:156", after := #[], guard := none }) (v := ?va1) rfl (by kernel_rfl) (by kernel_rfl) (by kernel_rfl) (fun _ _ _ h => h) (Or.inl ⟨by rfl, ?ra1⟩) (by assumption) ?_
  case ra1 => (intro w hSw; (try dsimp only at hSw); (go_simp <;> with_reducible rfl))
  try simp only [Act.put, List.setIfInBounds_toArray, List.set_cons_zero, List.set_cons_succ]
  refine wpAnyH_take (i := 1) (oi := { dst := some 6, op := Go.Op.move (Go.Operand.tmp 0), type := 23, pos := "accept.go:156", after := #[], guard := none }) (v := ?va2) rfl (by kernel_rfl) (by kernel_rfl) (by kernel_rfl) (fun _ _ _ h => h) (Or.inl ⟨by rfl, ?ra2⟩) (by assumption) ?_
  case ra2 => (intro w hSw; (try dsimp only at hSw); (go_simp <;> with_reducible rfl))
  try simp only [Act.put, List.setIfInBounds_toArray, List.set_cons_zero, List.set_cons_succ]
  refine wpAnyH_take (i := 2) (oi := { dst := some 7, op := Go.Op.nilCheck (Go.Operand.tmp 6), type := 0, pos := "accept.go:156", after := #[{ on := 1, ground := Go.Ground.data }], guard := none }) (v := ?va3) rfl (by kernel_rfl) (by kernel_rfl) (by kernel_rfl) (fun _ _ _ h => h) (Or.inl ⟨by rfl, ?ra3⟩) (by assumption) ?_
  case ra3 => (intro w hSw; (try dsimp only at hSw); (go_simp <;> with_reducible rfl))
  try simp only [Act.put, List.setIfInBounds_toArray, List.set_cons_zero, List.set_cons_succ]
  refine wpAnyH_take (i := 3) (oi := { dst := some 8, op := Go.Op.fieldAddr 100 (Go.Operand.tmp 7) 2, type := 0, pos := "accept.go:156", after := #[{ on := 2, ground := Go.Ground.data }], guard := none }) (v := ?va4) rfl (by kernel_rfl) (by kernel_rfl) (by kernel_rfl) (fun _ _ _ h => h) (Or.inl ⟨by rfl, ?ra4⟩) (by assumption) ?_
  case ra4 => (intro w hSw; (try dsimp only at hSw); (go_simp <;> with_reducible rfl))
  try simp only [Act.put, List.setIfInBounds_toArray, List.set_cons_zero, List.set_cons_succ]
  refine wpAnyH_take (i := 4) (oi := { dst := some 9, op := Go.Op.load 3 (Go.Operand.tmp 8), type := 3, pos := "accept.go:156", after := #[{ on := 3, ground := Go.Ground.data }], guard := none }) (v := ?va5) rfl (by kernel_rfl) (by kernel_rfl) (by kernel_rfl) (fun _ _ _ h => h) (Or.inl ⟨by rfl, ?ra5⟩) (by assumption) ?_
  case ra5 => (intro w hSw; (try dsimp only at hSw); (go_simp <;> with_reducible rfl))
  try simp only [Act.put, List.setIfInBounds_toArray, List.set_cons_zero, List.set_cons_succ]
  refine wpAnyH_take (i := 5) (oi := { dst := some 10, op := Go.Op.binOp Go.BinOp.leq 3 (Go.Operand.tmp 5) (Go.Operand.tmp 9) 3, type := 4, pos := "accept.go:156", after := #[{ on := 0, ground := Go.Ground.data }, { on := 4, ground := Go.Ground.data }], guard := none }) (v := (.bool true)) rfl (by kernel_rfl) (by kernel_rfl) (by kernel_rfl) (fun _ _ _ h => h) (Or.inl ⟨by rfl, ?ra6⟩) (by assumption) ?_
  case ra6 => (intro w hSw; (try dsimp only at hSw); go_simp; all_goals (first | simp [HX.out] | (simp; have := HX.out; omega)))
  try simp only [Act.put, List.setIfInBounds_toArray, List.set_cons_zero, List.set_cons_succ]
  refine wpAnyH_done (by kernel_rfl) ?_ _
  clear h0 c0 b3
  go_wp2
  go_ret
  exact ⟨rfl, HG.out.trans (Gr.refl _).drew⟩
set_option maxRecDepth 100000 in
set_option maxHeartbeats 2000000 in
theorem trim_up {base b : Nat} {v : Value} {wit : Bool} {pc pn ba to til : Int} {L : List E} (x : Int) (w : World) (h : Blk w b #[.bool wit, .int .u64 pc, .int .i64 pn, .int .i64 ba, v, .int .i64 to, .int .i64 til] 100) (hr : w.ownsRow base 108 4 v L.length (rcells encE L)) (hl : L.length ≤ 1000) (hx : ba < x) :
    Calls Try.prog 17 #[.pointer (some ⟨b, 0, none⟩), .int .i64 x] w fun e w' => ∃ v', e = .returned (.bool true) ∧ Blk w' b #[.bool wit, .int .u64 pc, .int .i64 pn, .int .i64 x, v', .int .i64 to, .int .i64 til] 100 ∧ w'.ownsRow base 108 4 v' (hiE L x).length (rcells encE (hiE L x)) ∧ Far b v w w' ∧ From v w v' := by
  have HG := Lib.hid ((Gr.refl w).alloc (.cells #[.int .i64 x] 3))
  have HA := Lib.hid (h.gr HG.out)
  have HO := Lib.hid (ownsRow_gr HG.out hr)
  have HB := Lib.hid (Blk.new w #[.int .i64 x] 3)
  have HVB := Lib.hid (show v.ownBlock ≠ some b from row_off h hr (by decide))
  have HVP := Lib.hid (show v.ownBlock ≠ some w.heap.size from fun e => by have := (hr.lt _ e).2; omega)
  have hpb : w.heap.size ≠ b := fun e => by have := h.lt; omega
  have c0 := HB.out.cell (i := 0) rfl
  have b3 := HA.out.cell (i := 3) rfl
  have HX := Lib.hid hx
  clear h hx hr
  go_enter Try.func17, Try.ntmps17
  go_wp2_with fail
  generalize w.alloc (.cells #[.int .i64 x] 3) = wa at *
  generalize w.heap.size = p at *
  refine wp_region_held_drew (S := (fun w9 => w9.cell? ⟨p, 0, none⟩ = some (.int .i64 x) ∧ w9.cell? ⟨b, 3, none⟩ = some (.int .i64 ba))) (by kernel_rfl) ?invb (fun h0 => ?_)
  case invb => ((try dsimp only); (exact ⟨c0, b3⟩))
  refine wpAnyH_take (i := 0) (oi := { dst := some 5, op := Go.Op.load 3 (Go.Operand.tmp 3), type := 3, pos := "accept.go:156", after := #[], guard := none }) (v := ?vb1) rfl (by kernel_rfl) (by kernel_rfl) (by kernel_rfl) (fun _ _ _ h => h) (Or.inl ⟨by rfl, ?rb1⟩) (by assumption) ?_
  case rb1 => (intro w hSw; (try dsimp only at hSw); (go_simp <;> with_reducible rfl))
  try simp only [Act.put, List.setIfInBounds_toArray, List.set_cons_zero, List.set_cons_succ]
  refine wpAnyH_take (i := 1) (oi := { dst := some 6, op := Go.Op.move (Go.Operand.tmp 0), type := 23, pos := "accept.go:156", after := #[], guard := none }) (v := ?vb2) rfl (by kernel_rfl) (by kernel_rfl) (by kernel_rfl) (fun _ _ _ h => h) (Or.inl ⟨by rfl, ?rb2⟩) (by assumption) ?_
  case rb2 => (intro w hSw; (try dsimp only at hSw); (go_simp <;> with_reducible rfl))
  try simp only [Act.put, List.setIfInBounds_toArray, List.set_cons_zero, List.set_cons_succ]
  refine wpAnyH_take (i := 2) (oi := { dst := some 7, op := Go.Op.nilCheck (Go.Operand.tmp 6), type := 0, pos := "accept.go:156", after := #[{ on := 1, ground := Go.Ground.data }], guard := none }) (v := ?vb3) rfl (by kernel_rfl) (by kernel_rfl) (by kernel_rfl) (fun _ _ _ h => h) (Or.inl ⟨by rfl, ?rb3⟩) (by assumption) ?_
  case rb3 => (intro w hSw; (try dsimp only at hSw); (go_simp <;> with_reducible rfl))
  try simp only [Act.put, List.setIfInBounds_toArray, List.set_cons_zero, List.set_cons_succ]
  refine wpAnyH_take (i := 3) (oi := { dst := some 8, op := Go.Op.fieldAddr 100 (Go.Operand.tmp 7) 2, type := 0, pos := "accept.go:156", after := #[{ on := 2, ground := Go.Ground.data }], guard := none }) (v := ?vb4) rfl (by kernel_rfl) (by kernel_rfl) (by kernel_rfl) (fun _ _ _ h => h) (Or.inl ⟨by rfl, ?rb4⟩) (by assumption) ?_
  case rb4 => (intro w hSw; (try dsimp only at hSw); (go_simp <;> with_reducible rfl))
  try simp only [Act.put, List.setIfInBounds_toArray, List.set_cons_zero, List.set_cons_succ]
  refine wpAnyH_take (i := 4) (oi := { dst := some 9, op := Go.Op.load 3 (Go.Operand.tmp 8), type := 3, pos := "accept.go:156", after := #[{ on := 3, ground := Go.Ground.data }], guard := none }) (v := ?vb5) rfl (by kernel_rfl) (by kernel_rfl) (by kernel_rfl) (fun _ _ _ h => h) (Or.inl ⟨by rfl, ?rb5⟩) (by assumption) ?_
  case rb5 => (intro w hSw; (try dsimp only at hSw); (go_simp <;> with_reducible rfl))
  try simp only [Act.put, List.setIfInBounds_toArray, List.set_cons_zero, List.set_cons_succ]
  refine wpAnyH_take (i := 5) (oi := { dst := some 10, op := Go.Op.binOp Go.BinOp.leq 3 (Go.Operand.tmp 5) (Go.Operand.tmp 9) 3, type := 4, pos := "accept.go:156", after := #[{ on := 0, ground := Go.Ground.data }, { on := 4, ground := Go.Ground.data }], guard := none }) (v := (.bool false)) rfl (by kernel_rfl) (by kernel_rfl) (by kernel_rfl) (fun _ _ _ h => h) (Or.inl ⟨by rfl, ?rb6⟩) (by assumption) ?_
  case rb6 => (intro w hSw; (try dsimp only at hSw); go_simp; all_goals (first | simp [HX.out] | (simp; have := HX.out; omega)))
  try simp only [Act.put, List.setIfInBounds_toArray, List.set_cons_zero, List.set_cons_succ]
  refine wpAnyH_done (by kernel_rfl) ?_ _
  clear h0 c0 b3
  have HA1 := Lib.hid (HA.out.gr (Gr.refl wa).drew)
  have HB1 := Lib.hid (HB.out.gr (Gr.refl wa).drew)
  have HO1 := Lib.hid (ownsRow_gr (Gr.refl wa).drew HO.out)
  have HF1 := Lib.hid (Far.of_gr (b := b) (v := v) (HG.out.trans (Gr.refl wa).drew))
  clear HA HB HO HG
  generalize wa.drew = w1 at *
  have c0 := HB1.out.cell (i := 0) rfl
  have b3 := HA1.out.cell (i := 3) rfl
  have f3 := HA1.out.free 3
  have HA2 := Lib.hid (HA1.out.set 3 (.int .i64 x))
  have HB2 := Lib.hid (HB1.out.other hpb 3 (.int .i64 x))
  have HO2 := Lib.hid (ownsRow_setCell_other (a := ⟨b, 3, none⟩) HO1.out HVB.out (.int .i64 x))
  have HF2 := Lib.hid (HF1.out.trans (From.refl v w) (Far.setCell b 3 v w1 (.int .i64 x)))
  have b4 := HA2.out.cell (i := 4) rfl
  have b4' : w1.cell? ⟨b, 4, none⟩ = some v := HA1.out.cell (i := 4) rfl
  go_wp2_with fail
  generalize w1.setCell ⟨b, 3, none⟩ (.int .i64 x) = w2 at *
  refine (delE_any x L _ HO2.out (HB2.out.cell (i := 0) rfl) HVP.out hl).mono ?_
  rintro e w3 ⟨v', rfl, ho3, hg3, hf3⟩
  obtain ⟨va', vc', hv', _⟩ := ownsRow_slice ho3
  subst hv'
  have HA3 := Lib.hid (HA2.out.grownB hg3 HVB.out)
  have HO3 := Lib.hid ho3
  have HF3 := Lib.hid (HF2.out.trans (From.refl v w) (Far.of_grown hg3))
  have HV3 := Lib.hid ((From.refl v w).trans HF2.out.size hf3)
  clear HA1 HB1 HO1 HF1 HA2 HB2 HO2 HF2 c0 b3 f3 b4 b4' ho3 hg3 hf3
  have b4 := HA3.out.cell (i := 4) rfl
  have f4 := HA3.out.free 4
  go_wp2
  go_ret
  exact ⟨_, rfl, HA3.out.set 4 _, ownsRow_setCell_other (a := ⟨b, 4, none⟩) HO3.out (row_off HA3.out HO3.out (by decide)) _, HF3.out.trans HV3.out (Far.setCell b 4 _ w3 _), HV3.out⟩
end Go.Proofs.Ytkihencimbdoiaa
