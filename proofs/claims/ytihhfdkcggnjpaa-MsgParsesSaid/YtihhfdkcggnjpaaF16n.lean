import Derived.Test.YtihhfdkcggnjpaaF16m
import Derived.WalkKit
import Derived.ProofKit
import Derived.LoopTactic
import Derived.Outline
import Derived.WalkSpells
import Derived.WalkLawsBesides
import Derived.Lib.Hide
import Derived.Deep.LoopGhost
import Derived.Deep.QuietTactic
import Derived.BigQuiet
import Derived.ShutString
import Derived.IntWalk
import Derived.Deep.RegionWith
import Derived.Deep.RegionHeld3
namespace Go.Proofs.Ytihhfdkcggnjpaa
open Go.ChangeShapes Go.WideShapes Go.ChangeAt Go.RowKit
open Bal
set_option linter.unusedVariables false
set_option linter.unusedSimpArgs false
/-- A grant keeps a node off. -/
def barsA (to til from' now : Int) : Bool := !(decide (to = 0 ∧ til = 0)) && (to != from' + 1 && decide (now < til))
set_option maxRecDepth 100000 in
set_option maxHeartbeats 1000000 in
theorem bars_any (to til from' now : Int) (w : World) (hf : 0 ≤ from' ∧ from' ≤ 1000000) :
    Calls Try.prog 86 #[.agg #[.int .i64 to, .int .i64 til], .int .i64 from', .int .i64 now] w fun e w' => e = .returned (.bool (barsA to til from' now)) ∧ Gr w w' := by
  by_cases h1 : to = 0 ∧ til = 0
  · have HQ := Lib.hid (show barsA to til from' now = false by unfold barsA; rw [decide_eq_true h1]; rfl)
    rw [HQ.out]
    obtain ⟨rfl, rfl⟩ := h1
    go_enter Try.func86, Try.ntmps86
    go_wp2
    go_ret
    exact ⟨rfl, (Gr.refl _).alloc _⟩
  · by_cases h4 : to = from' + 1
    · have HQ := Lib.hid (show barsA to til from' now = false by unfold barsA; rw [h4]; simp)
      rw [HQ.out]
      subst h4
      go_enter Try.func86, Try.ntmps86
      go_wp2
      all_goals
        go_ret
        exact ⟨rfl, (Gr.refl _).alloc _⟩
    · have h5 : (to != from' + 1) = true := by simp [h4]
      have HQ := Lib.hid (show barsA to til from' now = decide (now < til) by unfold barsA; rw [decide_eq_false h1, h5]; rfl)
      rw [HQ.out]
      go_enter Try.func86, Try.ntmps86
      go_wp2
      all_goals
        go_ret
        exact ⟨by first | rfl | (simp; omega), (Gr.refl _).alloc _⟩
set_option maxRecDepth 100000 in
set_option maxHeartbeats 1000000 in
theorem promise_any {b : Nat} {x0 x3 v x5 x6 : Value} {pc pn : Int} (c n : Int) (w : World) (h : Blk w b #[x0, .int .u64 pc, .int .i64 pn, x3, v, x5, x6] 150) :
    Calls Try.prog 90 #[.pointer (some ⟨b, 0, none⟩), .agg #[.int .u64 c, .int .i64 n]] w fun e w' => e = .returned (.bool (decide (¬ (c = pc ∧ n = pn)))) ∧ Blk w' b #[x0, .int .u64 c, .int .i64 n, x3, v, x5, x6] 150 ∧ Far b (.slice none 0 0) w w' := by
  have HB := Lib.hid (Blk.new w #[.int .u64 c, .int .i64 n] 50)
  have HG := Lib.hid ((Gr.refl w).alloc (.cells #[.int .u64 c, .int .i64 n] 50))
  have HA := Lib.hid (h.gr HG.out)
  have hlt := h.lt
  clear h
  have HE : Hid (∃ q, q = decide (¬ (c = pc ∧ n = pn)) ∧ ((q = false ∧ c = pc ∧ n = pn) ∨ (q = true ∧ c ≠ pc) ∨ (q = true ∧ c = pc ∧ n ≠ pn))) := Lib.hid ⟨_, rfl, by
    by_cases e1 : c = pc <;> by_cases e2 : n = pn <;> simp [e1, e2]⟩
  obtain ⟨q, hq, hways⟩ := HE.out
  rw [← hq]
  clear HE hq
  go_enter Try.func90, Try.ntmps90
  go_wp2_with fail
  generalize w.alloc (.cells #[.int .u64 c, .int .i64 n] 50) = wa at *
  generalize w.heap.size = p3 at *
  have hne : p3 ≠ b := by omega
  have c0 := HB.out.cell (i := 0) rfl
  have c1 := HB.out.cell (i := 1) rfl
  have a1 : wa.cell? ⟨b, 1, none⟩ = some (.int .u64 pc) := HA.out.cell (i := 1) rfl
  have a2 : wa.cell? ⟨b, 2, none⟩ = some (.int .i64 pn) := HA.out.cell (i := 2) rfl
  rcases hways with ⟨rfl, rfl, rfl⟩ | ⟨rfl, e1⟩ | ⟨rfl, rfl, e2⟩
  · refine wp_region_held_drew (S := (fun w9 => w9.cell? ⟨p3, 0, none⟩ = some (.int .u64 c) ∧ w9.cell? ⟨p3, 1, none⟩ = some (.int .i64 n) ∧ w9.cell? ⟨b, 1, none⟩ = some (.int .u64 c) ∧ w9.cell? ⟨b, 2, none⟩ = some (.int .i64 n))) (by kernel_rfl) ?inva (fun h0 => ?_)
    case inva => ((try dsimp only); (exact ⟨c0, c1, a1, a2⟩))
    refine wpAnyH_take (i := 0) (oi := { dst := some 6, op := Go.Op.load 50 (Go.Operand.tmp 3), type := 50, pos := "accept.go:74", after := #[], guard := none }) (v := ?va1) rfl (by kernel_rfl) (by kernel_rfl) (by kernel_rfl) (fun _ _ _ h => h) (Or.inl ⟨by rfl, ?ra1⟩) (by assumption) ?_
    case ra1 => (intro w hSw; (try dsimp only at hSw); (go_simp <;> with_reducible rfl))
    try simp only [Act.put, List.setIfInBounds_toArray, List.set_cons_zero, List.set_cons_succ]
    refine wpAnyH_take (i := 1) (oi := { dst := some 7, op := Go.Op.move (Go.Operand.tmp 0), type := 66, pos := "accept.go:74", after := #[], guard := none }) (v := ?va2) rfl (by kernel_rfl) (by kernel_rfl) (by kernel_rfl) (fun _ _ _ h => h) (Or.inl ⟨by rfl, ?ra2⟩) (by assumption) ?_
    case ra2 => (intro w hSw; (try dsimp only at hSw); (go_simp <;> with_reducible rfl))
    try simp only [Act.put, List.setIfInBounds_toArray, List.set_cons_zero, List.set_cons_succ]
    refine wpAnyH_take (i := 2) (oi := { dst := some 8, op := Go.Op.nilCheck (Go.Operand.tmp 7), type := 0, pos := "accept.go:74", after := #[{ on := 1, ground := Go.Ground.data }], guard := none }) (v := ?va3) rfl (by kernel_rfl) (by kernel_rfl) (by kernel_rfl) (fun _ _ _ h => h) (Or.inl ⟨by rfl, ?ra3⟩) (by assumption) ?_
    case ra3 => (intro w hSw; (try dsimp only at hSw); (go_simp <;> with_reducible rfl))
    try simp only [Act.put, List.setIfInBounds_toArray, List.set_cons_zero, List.set_cons_succ]
    refine wpAnyH_take (i := 3) (oi := { dst := some 9, op := Go.Op.fieldAddr 150 (Go.Operand.tmp 8) 1, type := 0, pos := "accept.go:74", after := #[{ on := 2, ground := Go.Ground.data }], guard := none }) (v := ?va4) rfl (by kernel_rfl) (by kernel_rfl) (by kernel_rfl) (fun _ _ _ h => h) (Or.inl ⟨by rfl, ?ra4⟩) (by assumption) ?_
    case ra4 => (intro w hSw; (try dsimp only at hSw); (go_simp <;> with_reducible rfl))
    try simp only [Act.put, List.setIfInBounds_toArray, List.set_cons_zero, List.set_cons_succ]
    refine wpAnyH_take (i := 4) (oi := { dst := some 10, op := Go.Op.load 50 (Go.Operand.tmp 9), type := 50, pos := "accept.go:74", after := #[{ on := 3, ground := Go.Ground.data }], guard := none }) (v := ?va5) rfl (by kernel_rfl) (by kernel_rfl) (by kernel_rfl) (fun _ _ _ h => h) (Or.inl ⟨by rfl, ?ra5⟩) (by assumption) ?_
    case ra5 => (intro w hSw; (try dsimp only at hSw); (go_simp <;> with_reducible rfl))
    try simp only [Act.put, List.setIfInBounds_toArray, List.set_cons_zero, List.set_cons_succ]
    refine wpAnyH_take (i := 5) (oi := { dst := some 11, op := Go.Op.binOp Go.BinOp.neq 50 (Go.Operand.tmp 6) (Go.Operand.tmp 10) 50, type := 4, pos := "accept.go:74", after := #[{ on := 0, ground := Go.Ground.data }, { on := 4, ground := Go.Ground.data }], guard := none }) (v := (.bool false)) rfl (by kernel_rfl) (by kernel_rfl) (by kernel_rfl) (fun _ _ _ h => h) (Or.inl ⟨by rfl, ?ra6⟩) (by assumption) ?_
    case ra6 => (intro w hSw; (try dsimp only at hSw); go_simp; all_goals simp_all)
    try simp only [Act.put, List.setIfInBounds_toArray, List.set_cons_zero, List.set_cons_succ]
    refine wpAnyH_take (i := 6) (oi := { dst := some 5, op := Go.Op.assign (Go.Operand.tmp 11), type := 4, pos := "accept.go:74", after := #[{ on := 5, ground := Go.Ground.data }, { on := 0, ground := Go.Ground.phase }, { on := 1, ground := Go.Ground.phase }, { on := 2, ground := Go.Ground.phase }, { on := 3, ground := Go.Ground.phase }, { on := 4, ground := Go.Ground.phase }, { on := 5, ground := Go.Ground.phase }], guard := none }) (v := ?va7) rfl (by kernel_rfl) (by kernel_rfl) (by kernel_rfl) (fun _ _ _ h => h) (Or.inl ⟨by rfl, ?ra7⟩) (by assumption) ?_
    case ra7 => (intro w hSw; (try dsimp only at hSw); (go_simp <;> with_reducible rfl))
    try simp only [Act.put, List.setIfInBounds_toArray, List.set_cons_zero, List.set_cons_succ]
    refine wpAnyH_done (by kernel_rfl) ?_ _
    have HD := Lib.hid (HA.out.gr (Gr.refl _).drew)
    have z0 := h0.1
    have z1 := h0.2.1
    clear h0
    have y1 := HD.out.free 1
    have y2 := HD.out.free 2
    have u1 := HA.out.free 1
    have u2 := HA.out.free 2
    have z3 := HD.out.cell (i := 1) rfl
    have z4 := HD.out.cell (i := 2) rfl
    have HS := Lib.hid ((HD.out.set 1 (.int .u64 c)).set 2 (.int .i64 n))
    go_wp2
    go_ret
    exact ⟨rfl, HS.out, (Far.of_gr (HG.out.trans (Gr.refl _).drew)).trans (From.refl _ _) ((Far.setCell b 1 _ _ _).trans (From.refl _ _) (Far.setCell b 2 _ _ _))⟩
  · refine wp_region_held_drew (S := (fun w9 => w9.cell? ⟨p3, 0, none⟩ = some (.int .u64 c) ∧ w9.cell? ⟨p3, 1, none⟩ = some (.int .i64 n) ∧ w9.cell? ⟨b, 1, none⟩ = some (.int .u64 pc) ∧ w9.cell? ⟨b, 2, none⟩ = some (.int .i64 pn))) (by kernel_rfl) ?invb (fun h0 => ?_)
    case invb => ((try dsimp only); (exact ⟨c0, c1, a1, a2⟩))
    refine wpAnyH_take (i := 0) (oi := { dst := some 6, op := Go.Op.load 50 (Go.Operand.tmp 3), type := 50, pos := "accept.go:74", after := #[], guard := none }) (v := ?vb1) rfl (by kernel_rfl) (by kernel_rfl) (by kernel_rfl) (fun _ _ _ h => h) (Or.inl ⟨by rfl, ?rb1⟩) (by assumption) ?_
    case rb1 => (intro w hSw; (try dsimp only at hSw); (go_simp <;> with_reducible rfl))
    try simp only [Act.put, List.setIfInBounds_toArray, List.set_cons_zero, List.set_cons_succ]
    refine wpAnyH_take (i := 1) (oi := { dst := some 7, op := Go.Op.move (Go.Operand.tmp 0), type := 66, pos := "accept.go:74", after := #[], guard := none }) (v := ?vb2) rfl (by kernel_rfl) (by kernel_rfl) (by kernel_rfl) (fun _ _ _ h => h) (Or.inl ⟨by rfl, ?rb2⟩) (by assumption) ?_
    case rb2 => (intro w hSw; (try dsimp only at hSw); (go_simp <;> with_reducible rfl))
    try simp only [Act.put, List.setIfInBounds_toArray, List.set_cons_zero, List.set_cons_succ]
    refine wpAnyH_take (i := 2) (oi := { dst := some 8, op := Go.Op.nilCheck (Go.Operand.tmp 7), type := 0, pos := "accept.go:74", after := #[{ on := 1, ground := Go.Ground.data }], guard := none }) (v := ?vb3) rfl (by kernel_rfl) (by kernel_rfl) (by kernel_rfl) (fun _ _ _ h => h) (Or.inl ⟨by rfl, ?rb3⟩) (by assumption) ?_
    case rb3 => (intro w hSw; (try dsimp only at hSw); (go_simp <;> with_reducible rfl))
    try simp only [Act.put, List.setIfInBounds_toArray, List.set_cons_zero, List.set_cons_succ]
    refine wpAnyH_take (i := 3) (oi := { dst := some 9, op := Go.Op.fieldAddr 150 (Go.Operand.tmp 8) 1, type := 0, pos := "accept.go:74", after := #[{ on := 2, ground := Go.Ground.data }], guard := none }) (v := ?vb4) rfl (by kernel_rfl) (by kernel_rfl) (by kernel_rfl) (fun _ _ _ h => h) (Or.inl ⟨by rfl, ?rb4⟩) (by assumption) ?_
    case rb4 => (intro w hSw; (try dsimp only at hSw); (go_simp <;> with_reducible rfl))
    try simp only [Act.put, List.setIfInBounds_toArray, List.set_cons_zero, List.set_cons_succ]
    refine wpAnyH_take (i := 4) (oi := { dst := some 10, op := Go.Op.load 50 (Go.Operand.tmp 9), type := 50, pos := "accept.go:74", after := #[{ on := 3, ground := Go.Ground.data }], guard := none }) (v := ?vb5) rfl (by kernel_rfl) (by kernel_rfl) (by kernel_rfl) (fun _ _ _ h => h) (Or.inl ⟨by rfl, ?rb5⟩) (by assumption) ?_
    case rb5 => (intro w hSw; (try dsimp only at hSw); (go_simp <;> with_reducible rfl))
    try simp only [Act.put, List.setIfInBounds_toArray, List.set_cons_zero, List.set_cons_succ]
    refine wpAnyH_take (i := 5) (oi := { dst := some 11, op := Go.Op.binOp Go.BinOp.neq 50 (Go.Operand.tmp 6) (Go.Operand.tmp 10) 50, type := 4, pos := "accept.go:74", after := #[{ on := 0, ground := Go.Ground.data }, { on := 4, ground := Go.Ground.data }], guard := none }) (v := (.bool true)) rfl (by kernel_rfl) (by kernel_rfl) (by kernel_rfl) (fun _ _ _ h => h) (Or.inl ⟨by rfl, ?rb6⟩) (by assumption) ?_
    case rb6 => (intro w hSw; (try dsimp only at hSw); go_simp; all_goals simp_all)
    try simp only [Act.put, List.setIfInBounds_toArray, List.set_cons_zero, List.set_cons_succ]
    refine wpAnyH_take (i := 6) (oi := { dst := some 5, op := Go.Op.assign (Go.Operand.tmp 11), type := 4, pos := "accept.go:74", after := #[{ on := 5, ground := Go.Ground.data }, { on := 0, ground := Go.Ground.phase }, { on := 1, ground := Go.Ground.phase }, { on := 2, ground := Go.Ground.phase }, { on := 3, ground := Go.Ground.phase }, { on := 4, ground := Go.Ground.phase }, { on := 5, ground := Go.Ground.phase }], guard := none }) (v := ?vb7) rfl (by kernel_rfl) (by kernel_rfl) (by kernel_rfl) (fun _ _ _ h => h) (Or.inl ⟨by rfl, ?rb7⟩) (by assumption) ?_
    case rb7 => (intro w hSw; (try dsimp only at hSw); (go_simp <;> with_reducible rfl))
    try simp only [Act.put, List.setIfInBounds_toArray, List.set_cons_zero, List.set_cons_succ]
    refine wpAnyH_done (by kernel_rfl) ?_ _
    have HD := Lib.hid (HA.out.gr (Gr.refl _).drew)
    have z0 := h0.1
    have z1 := h0.2.1
    clear h0
    have y1 := HD.out.free 1
    have y2 := HD.out.free 2
    have u1 := HA.out.free 1
    have u2 := HA.out.free 2
    have z3 := HD.out.cell (i := 1) rfl
    have z4 := HD.out.cell (i := 2) rfl
    have HS := Lib.hid ((HD.out.set 1 (.int .u64 c)).set 2 (.int .i64 n))
    go_wp2
    go_ret
    exact ⟨rfl, HS.out, (Far.of_gr (HG.out.trans (Gr.refl _).drew)).trans (From.refl _ _) ((Far.setCell b 1 _ _ _).trans (From.refl _ _) (Far.setCell b 2 _ _ _))⟩
  · refine wp_region_held_drew (S := (fun w9 => w9.cell? ⟨p3, 0, none⟩ = some (.int .u64 c) ∧ w9.cell? ⟨p3, 1, none⟩ = some (.int .i64 n) ∧ w9.cell? ⟨b, 1, none⟩ = some (.int .u64 c) ∧ w9.cell? ⟨b, 2, none⟩ = some (.int .i64 pn))) (by kernel_rfl) ?invd (fun h0 => ?_)
    case invd => ((try dsimp only); (exact ⟨c0, c1, a1, a2⟩))
    refine wpAnyH_take (i := 0) (oi := { dst := some 6, op := Go.Op.load 50 (Go.Operand.tmp 3), type := 50, pos := "accept.go:74", after := #[], guard := none }) (v := ?vd1) rfl (by kernel_rfl) (by kernel_rfl) (by kernel_rfl) (fun _ _ _ h => h) (Or.inl ⟨by rfl, ?rd1⟩) (by assumption) ?_
    case rd1 => (intro w hSw; (try dsimp only at hSw); (go_simp <;> with_reducible rfl))
    try simp only [Act.put, List.setIfInBounds_toArray, List.set_cons_zero, List.set_cons_succ]
    refine wpAnyH_take (i := 1) (oi := { dst := some 7, op := Go.Op.move (Go.Operand.tmp 0), type := 66, pos := "accept.go:74", after := #[], guard := none }) (v := ?vd2) rfl (by kernel_rfl) (by kernel_rfl) (by kernel_rfl) (fun _ _ _ h => h) (Or.inl ⟨by rfl, ?rd2⟩) (by assumption) ?_
    case rd2 => (intro w hSw; (try dsimp only at hSw); (go_simp <;> with_reducible rfl))
    try simp only [Act.put, List.setIfInBounds_toArray, List.set_cons_zero, List.set_cons_succ]
    refine wpAnyH_take (i := 2) (oi := { dst := some 8, op := Go.Op.nilCheck (Go.Operand.tmp 7), type := 0, pos := "accept.go:74", after := #[{ on := 1, ground := Go.Ground.data }], guard := none }) (v := ?vd3) rfl (by kernel_rfl) (by kernel_rfl) (by kernel_rfl) (fun _ _ _ h => h) (Or.inl ⟨by rfl, ?rd3⟩) (by assumption) ?_
    case rd3 => (intro w hSw; (try dsimp only at hSw); (go_simp <;> with_reducible rfl))
    try simp only [Act.put, List.setIfInBounds_toArray, List.set_cons_zero, List.set_cons_succ]
    refine wpAnyH_take (i := 3) (oi := { dst := some 9, op := Go.Op.fieldAddr 150 (Go.Operand.tmp 8) 1, type := 0, pos := "accept.go:74", after := #[{ on := 2, ground := Go.Ground.data }], guard := none }) (v := ?vd4) rfl (by kernel_rfl) (by kernel_rfl) (by kernel_rfl) (fun _ _ _ h => h) (Or.inl ⟨by rfl, ?rd4⟩) (by assumption) ?_
    case rd4 => (intro w hSw; (try dsimp only at hSw); (go_simp <;> with_reducible rfl))
    try simp only [Act.put, List.setIfInBounds_toArray, List.set_cons_zero, List.set_cons_succ]
    refine wpAnyH_take (i := 4) (oi := { dst := some 10, op := Go.Op.load 50 (Go.Operand.tmp 9), type := 50, pos := "accept.go:74", after := #[{ on := 3, ground := Go.Ground.data }], guard := none }) (v := ?vd5) rfl (by kernel_rfl) (by kernel_rfl) (by kernel_rfl) (fun _ _ _ h => h) (Or.inl ⟨by rfl, ?rd5⟩) (by assumption) ?_
    case rd5 => (intro w hSw; (try dsimp only at hSw); (go_simp <;> with_reducible rfl))
    try simp only [Act.put, List.setIfInBounds_toArray, List.set_cons_zero, List.set_cons_succ]
    refine wpAnyH_take (i := 5) (oi := { dst := some 11, op := Go.Op.binOp Go.BinOp.neq 50 (Go.Operand.tmp 6) (Go.Operand.tmp 10) 50, type := 4, pos := "accept.go:74", after := #[{ on := 0, ground := Go.Ground.data }, { on := 4, ground := Go.Ground.data }], guard := none }) (v := (.bool true)) rfl (by kernel_rfl) (by kernel_rfl) (by kernel_rfl) (fun _ _ _ h => h) (Or.inl ⟨by rfl, ?rd6⟩) (by assumption) ?_
    case rd6 => (intro w hSw; (try dsimp only at hSw); go_simp; all_goals simp_all)
    try simp only [Act.put, List.setIfInBounds_toArray, List.set_cons_zero, List.set_cons_succ]
    refine wpAnyH_take (i := 6) (oi := { dst := some 5, op := Go.Op.assign (Go.Operand.tmp 11), type := 4, pos := "accept.go:74", after := #[{ on := 5, ground := Go.Ground.data }, { on := 0, ground := Go.Ground.phase }, { on := 1, ground := Go.Ground.phase }, { on := 2, ground := Go.Ground.phase }, { on := 3, ground := Go.Ground.phase }, { on := 4, ground := Go.Ground.phase }, { on := 5, ground := Go.Ground.phase }], guard := none }) (v := ?vd7) rfl (by kernel_rfl) (by kernel_rfl) (by kernel_rfl) (fun _ _ _ h => h) (Or.inl ⟨by rfl, ?rd7⟩) (by assumption) ?_
    case rd7 => (intro w hSw; (try dsimp only at hSw); (go_simp <;> with_reducible rfl))
    try simp only [Act.put, List.setIfInBounds_toArray, List.set_cons_zero, List.set_cons_succ]
    refine wpAnyH_done (by kernel_rfl) ?_ _
    have HD := Lib.hid (HA.out.gr (Gr.refl _).drew)
    have z0 := h0.1
    have z1 := h0.2.1
    clear h0
    have y1 := HD.out.free 1
    have y2 := HD.out.free 2
    have u1 := HA.out.free 1
    have u2 := HA.out.free 2
    have z3 := HD.out.cell (i := 1) rfl
    have z4 := HD.out.cell (i := 2) rfl
    have HS := Lib.hid ((HD.out.set 1 (.int .u64 c)).set 2 (.int .i64 n))
    go_wp2
    go_ret
    exact ⟨rfl, HS.out, (Far.of_gr (HG.out.trans (Gr.refl _).drew)).trans (From.refl _ _) ((Far.setCell b 1 _ _ _).trans (From.refl _ _) (Far.setCell b 2 _ _ _))⟩
end Go.Proofs.Ytihhfdkcggnjpaa
