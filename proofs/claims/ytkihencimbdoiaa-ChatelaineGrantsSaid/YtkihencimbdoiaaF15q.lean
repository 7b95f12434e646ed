import Derived.Test.YtkihencimbdoiaaF15p
import Derived.WalkKit
import Derived.ProofKit
import Derived.LoopTactic
import Derived.Outline
import Derived.WalkSpells
import Derived.WalkLawsBesides
import Derived.Lib.Hide
import Derived.Deep.LoopGhost
import Derived.Deep.QuietTactic
import Derived.BigQuiet
import Derived.ShutString
import Derived.IntWalk
import Derived.Lib.MinMax
import Derived.Lib.Slices
import Derived.BigQuiet
import Derived.Deep.RegionWith
import Derived.Deep.RegionHeld3
namespace Go.Proofs.Ytkihencimbdoiaa
open Go.ChangeShapes Go.WideShapes Go.ChangeAt Go.RowKit
open Rates
set_option linter.unusedVariables false
set_option linter.unusedSimpArgs false
def widerB (pl pm ql qm : Nat) : Bool := decide (qm * pl < pm * ql)
set_option maxRecDepth 100000 in
set_option maxHeartbeats 1000000 in
theorem wider_any (pl pm ql qm : Nat) (w : World) (h1 : pl ≤ 1099511627776) (h2 : pm ≤ 1099511627776) (h3 : ql ≤ 1099511627776) (h4 : qm ≤ 1099511627776) :
    Calls Try.prog 131 #[.agg #[.int .i64 pl, .int .i64 pm], .agg #[.int .i64 ql, .int .i64 qm]] w fun e w' => e = .returned (.bool (widerB pl pm ql qm)) ∧ Gr w w' := by
  have HX := Lib.hid (fun w => Try.bits_Mul64 pm ql (by omega) (by omega) w)
  have HY := Lib.hid (fun w => Try.bits_Mul64 qm pl (by omega) (by omega) w)
  have HQ : Hid (widerB pl pm ql qm = decide (qm * pl < pm * ql)) := Lib.hid rfl
  generalize widerB pl pm ql qm = q at *
  generalize pm * ql = X at *
  generalize qm * pl = Y at *
  have u1 : IntKind.u64.wrap (pl : Int) = (pl : Int) := by rw [IntKind.wrap_u64]; omega
  have u2 : IntKind.u64.wrap (pm : Int) = (pm : Int) := by rw [IntKind.wrap_u64]; omega
  have u3 : IntKind.u64.wrap (ql : Int) = (ql : Int) := by rw [IntKind.wrap_u64]; omega
  have u4 : IntKind.u64.wrap (qm : Int) = (qm : Int) := by rw [IntKind.wrap_u64]; omega
  have HG := Lib.hid (((Gr.refl w).alloc (.cells #[.int .i64 pl, .int .i64 pm] 134)).alloc (.cells #[.int .i64 ql, .int .i64 qm] 134))
  have HX2 := Lib.hid (show X / 18446744073709551616 * 18446744073709551616 + X % 18446744073709551616 = X by omega)
  have HY2 := Lib.hid (show Y / 18446744073709551616 * 18446744073709551616 + Y % 18446744073709551616 = Y by omega)
  have HM := Lib.hid (show X % 18446744073709551616 < 18446744073709551616 ∧ Y % 18446744073709551616 < 18446744073709551616 by omega)
  generalize X / 18446744073709551616 = X1 at *
  generalize X % 18446744073709551616 = X2 at *
  generalize Y / 18446744073709551616 = Y1 at *
  generalize Y % 18446744073709551616 = Y2 at *
  have HV : Hid ((Y1 < X1 → q = true) ∧ (¬ Y1 < X1 → X1 = Y1 → q = decide (Y2 < X2)) ∧ (¬ Y1 < X1 → ¬ X1 = Y1 → q = false)) := Lib.hid (by
    have e1 := HX2.out
    have e2 := HY2.out
    have e3 := HM.out
    rw [HQ.out]
    refine ⟨fun h => decide_eq_true (by omega), fun h e => ?_, fun h e => decide_eq_false (by omega)⟩
    by_cases hh : Y2 < X2
    · rw [decide_eq_true hh]; exact decide_eq_true (by omega)
    · rw [decide_eq_false hh]; exact decide_eq_false (by omega))
  clear h1 h2 h3 h4
  go_enter Try.func131, Try.ntmps131
  go_wp2_with fail
  refine (HX.out _).mono ?_
  rintro e w2 ⟨rfl, rfl⟩
  go_wp2_with fail
  refine (HY.out _).mono ?_
  rintro e w2 ⟨rfl, rfl⟩
  by_cases g1 : Y1 < X1
  · have hq := HV.out.1 g1
    subst hq
    have g2 : (Y1 : Int) < (X1 : Int) := by omega
    go_wp2
    go_ret
    exact ⟨rfl, HG.out⟩
  · have g2 : ¬ (Y1 : Int) < (X1 : Int) := by omega
    by_cases g3 : X1 = Y1
    · have hq := HV.out.2.1 g1 g3
      subst hq
      subst g3
      go_wp2
      go_ret
      exact ⟨by simp, HG.out⟩
    · have hq := HV.out.2.2 g1 g3
      subst hq
      have g4 : ¬ (X1 : Int) = (Y1 : Int) := by omega
      go_wp2
      go_ret
      exact ⟨rfl, HG.out⟩
def judgeC (c : Clk) (mn mx : Int) : Clk := if widerB mn.toNat mx.toNat c.lo.toNat c.hi.toNat then ⟨c.n, c.now, c.by', mn, mx, true⟩ else ⟨c.n, c.now, c.by', c.lo, c.hi, true⟩
theorem judgeC_ok {c : Clk} (h : c.Ok) {mn mx : Int} (h1 : 0 ≤ mn ∧ mn ≤ 1099511627776) (h2 : 0 ≤ mx ∧ mx ≤ 1099511627776) : (judgeC c mn mx).Ok := by
  unfold judgeC
  split
  · exact ⟨h.n, h.now, h.by', h.sum, h1, h2⟩
  · exact ⟨h.n, h.now, h.by', h.sum, h.lo, h.hi⟩
theorem ClkIs.judged {w : World} {b : Nat} {c : Clk} (h : ClkIs w b c) : ClkTo b w ⟨c.n, c.now, c.by', c.lo, c.hi, true⟩ (w.setCell ⟨b, 27, none⟩ (.bool true)) := by
  have hs : ∀ o, o ≠ 27 → (w.setCell ⟨b, 27, none⟩ (.bool true)).cell? ⟨b, o, none⟩ = w.cell? ⟨b, o, none⟩ := fun o h1 => by
    rw [World.cell?_setCell_other _ _ _ _ (by simp [h1])]
  exact ⟨⟨(hs 0 (by omega)).trans h.n, fun i hi => (hs _ (by omega)).trans (h.now i hi), fun i hi => (hs _ (by omega)).trans (h.by' i hi), (hs 25 (by omega)).trans h.lo, (hs 26 (by omega)).trans h.hi, World.cell?_setCell_same _ _ _ (by rw [h.jd]), fun i => by rw [World.frozen?_setCell]; exact h.free i, ⟨h.ok.n, h.ok.now, h.ok.by', h.ok.sum, h.ok.lo, h.ok.hi⟩⟩, Far.setCell b _ _ _ _⟩
theorem ClkIs.wide {w : World} {b : Nat} {c : Clk} (h : ClkIs w b c) (x y : Int) (hx : 0 ≤ x ∧ x ≤ 1099511627776) (hy : 0 ≤ y ∧ y ≤ 1099511627776) : ClkTo b w ⟨c.n, c.now, c.by', x, y, c.jd⟩ ((w.setCell ⟨b, 25, none⟩ (.int .i64 x)).setCell ⟨b, 26, none⟩ (.int .i64 y)) := by
  have hs : ∀ o, o ≠ 25 → o ≠ 26 → ((w.setCell ⟨b, 25, none⟩ (.int .i64 x)).setCell ⟨b, 26, none⟩ (.int .i64 y)).cell? ⟨b, o, none⟩ = w.cell? ⟨b, o, none⟩ := fun o h1 h2 => by
    rw [World.cell?_setCell_other _ _ _ _ (by simp [h2]), World.cell?_setCell_other _ _ _ _ (by simp [h1])]
  refine ⟨⟨(hs 0 (by omega) (by omega)).trans h.n, fun i hi => (hs _ (by omega) (by omega)).trans (h.now i hi), fun i hi => (hs _ (by omega) (by omega)).trans (h.by' i hi), ?_, ?_, (hs 27 (by omega) (by omega)).trans h.jd, fun i => by rw [World.frozen?_setCell, World.frozen?_setCell]; exact h.free i, ⟨h.ok.n, h.ok.now, h.ok.by', h.ok.sum, hx, hy⟩⟩, (Far.setCell b _ _ _ _).trans (From.refl _ _) (Far.setCell b _ _ _ _)⟩
  · rw [World.cell?_setCell_other _ _ _ _ (by simp)]
    exact World.cell?_setCell_same _ _ _ (by rw [h.lo])
  · exact World.cell?_setCell_same _ _ _ (by rw [World.cell?_setCell_other _ _ _ _ (by simp), h.hi])
set_option maxRecDepth 100000 in
set_option maxHeartbeats 1000000 in
theorem judge_any {b : Nat} {c : Clk} (mn mx : Int) (w : World) (h : ClkIs w b c) (h1 : 0 ≤ mn ∧ mn ≤ 1099511627776) (h2 : 0 ≤ mx ∧ mx ≤ 1099511627776) :
    Calls Try.prog 91 #[.pointer (some ⟨b, 0, none⟩), .agg #[.int .i64 mn, .int .i64 mx]] w fun e w' => e = .returned (.tuple #[]) ∧ ClkTo b w (judgeC c mn mx) w' := by
  obtain ⟨nmn, rfl⟩ : ∃ k : Nat, mn = (k : Int) := ⟨mn.toNat, by omega⟩
  obtain ⟨nmx, rfl⟩ : ∃ k : Nat, mx = (k : Int) := ⟨mx.toNat, by omega⟩
  have HG := Lib.hid ((Gr.refl w).alloc (.cells #[.int .i64 nmn, .int .i64 nmx] 134))
  have H0 := Lib.hid (h.gr HG.out)
  have hj := H0.out.judged
  have HJ := Lib.hid hj.1
  have HF := Lib.hid (((Far.of_gr HG.out).trans (From.refl _ _) hj.2))
  have HBX := Lib.hid (((Blk.new w #[.int .i64 nmn, .int .i64 nmx] 134).other (c := b) (by have := cell_lt h.n; omega) 27 (.bool true)))
  have c7 := H0.out.jd
  have f7 := H0.out.free 27
  have hlo := h.ok.lo
  have hhi := h.ok.hi
  have HW := Lib.hid (fun w => wider_any nmn nmx c.lo.toNat c.hi.toNat w (by omega) (by omega) (by omega) (by omega))
  have HM := Lib.hid (fun w (h : ClkIs w b ⟨c.n, c.now, c.by', c.lo, c.hi, true⟩) => h.wide nmn nmx h1 h2)
  unfold judgeC
  rw [show ((nmn : Int)).toNat = nmn by omega, show ((nmx : Int)).toNat = nmx by omega]
  have e1 : ((c.lo.toNat : Nat) : Int) = c.lo := by omega
  have e2 : ((c.hi.toNat : Nat) : Int) = c.hi := by omega
  rw [e1, e2] at HW
  generalize widerB nmn nmx c.lo.toNat c.hi.toNat = q at *
  clear hj h hlo hhi e1 e2 h1 h2
  cases q
  · rw [if_neg (by decide)]
    go_enter Try.func91, Try.ntmps91
    go_wp2_with fail
    generalize (w.alloc (.cells #[.int .i64 nmn, .int .i64 nmx] 134)).setCell ⟨b, 27, none⟩ (.bool true) = w1 at *
    have c25 := HJ.out.lo
    have c26 := HJ.out.hi
    have b0 := HBX.out.cell (i := 0) rfl
    have b1 := HBX.out.cell (i := 1) rfl
    clear c7 f7
    refine wp_region_held_drew (S := (fun w9 => w9.cell? ⟨w.heap.size, 0, none⟩ = some (.int .i64 nmn) ∧ w9.cell? ⟨w.heap.size, 1, none⟩ = some (.int .i64 nmx) ∧ w9.cell? ⟨b, 25, none⟩ = some (.int .i64 c.lo) ∧ w9.cell? ⟨b, 26, none⟩ = some (.int .i64 c.hi))) (by kernel_rfl) ?inva (fun h0 => ?_)
    case inva => ((try dsimp only); (exact ⟨b0, b1, c25, c26⟩))
    refine wpAnyH_take (i := 0) (oi := { dst := some 7, op := Go.Op.load 134 (Go.Operand.tmp 3), type := 134, pos := "clock.go:73", after := #[], guard := none }) (v := ?va1) rfl (by kernel_rfl) (by kernel_rfl) (by kernel_rfl) (fun _ _ _ h => h) (Or.inl ⟨by rfl, ?ra1⟩) (by assumption) ?_
    case ra1 => (intro w hSw; (try dsimp only at hSw); (go_simp <;> with_reducible rfl))
    try simp only [Act.put, List.setIfInBounds_toArray, List.set_cons_zero, List.set_cons_succ]
    refine wpAnyH_take (i := 1) (oi := { dst := some 8, op := Go.Op.move (Go.Operand.tmp 0), type := 76, pos := "clock.go:73", after := #[], guard := none }) (v := ?va2) rfl (by kernel_rfl) (by kernel_rfl) (by kernel_rfl) (fun _ _ _ h => h) (Or.inl ⟨by rfl, ?ra2⟩) (by assumption) ?_
    case ra2 => (intro w hSw; (try dsimp only at hSw); (go_simp <;> with_reducible rfl))
    try simp only [Act.put, List.setIfInBounds_toArray, List.set_cons_zero, List.set_cons_succ]
    refine wpAnyH_take (i := 2) (oi := { dst := some 9, op := Go.Op.nilCheck (Go.Operand.tmp 8), type := 0, pos := "clock.go:73", after := #[{ on := 1, ground := Go.Ground.data }], guard := none }) (v := ?va3) rfl (by kernel_rfl) (by kernel_rfl) (by kernel_rfl) (fun _ _ _ h => h) (Or.inl ⟨by rfl, ?ra3⟩) (by assumption) ?_
    case ra3 => (intro w hSw; (try dsimp only at hSw); (go_simp <;> with_reducible rfl))
    try simp only [Act.put, List.setIfInBounds_toArray, List.set_cons_zero, List.set_cons_succ]
    refine wpAnyH_take (i := 3) (oi := { dst := some 10, op := Go.Op.fieldAddr 137 (Go.Operand.tmp 9) 3, type := 0, pos := "clock.go:73", after := #[{ on := 2, ground := Go.Ground.data }], guard := none }) (v := ?va4) rfl (by kernel_rfl) (by kernel_rfl) (by kernel_rfl) (fun _ _ _ h => h) (Or.inl ⟨by rfl, ?ra4⟩) (by assumption) ?_
    case ra4 => (intro w hSw; (try dsimp only at hSw); (go_simp <;> with_reducible rfl))
    try simp only [Act.put, List.setIfInBounds_toArray, List.set_cons_zero, List.set_cons_succ]
    refine wpAnyH_take (i := 4) (oi := { dst := some 11, op := Go.Op.load 134 (Go.Operand.tmp 10), type := 134, pos := "clock.go:73", after := #[{ on := 3, ground := Go.Ground.data }], guard := none }) (v := ?va5) rfl (by kernel_rfl) (by kernel_rfl) (by kernel_rfl) (fun _ _ _ h => h) (Or.inl ⟨by rfl, ?ra5⟩) (by assumption) ?_
    case ra5 => (intro w hSw; (try dsimp only at hSw); (go_simp <;> with_reducible rfl))
    try simp only [Act.put, List.setIfInBounds_toArray, List.set_cons_zero, List.set_cons_succ]
    refine wpAnyH_ready (rs := [5]) (by kernel_rfl) (by simp) ?_
    refine AllReadyH.cons (o := { dst := some 12, op := Go.Op.call { callee := Go.Callee.value (Go.Operand.func 131), args := #[Go.Operand.tmp 7, Go.Operand.tmp 11], argTypes := #[134, 134] }, type := 4, pos := "clock.go:73", after := #[{ on := 0, ground := Go.Ground.data }, { on := 4, ground := Go.Ground.data }], guard := none }) rfl (fun K hK => ?_) AllReadyH.nil
    go_simp
    go_at_call 131
    refine (HW.out _).mono ?_
    rintro e w9 ⟨rfl, hg9⟩
    have QG := Lib.hid ((Gr.refl w1).drew.trans hg9)
    first | refine hK.out _ _ ?sa6 (fun h6 => ?_) | (go_wp2_with fail; refine hK.out _ _ ?sa6 (fun h6 => ?_))
    case sa6 => ((try dsimp only); (exact ⟨hg9.cell h0.1, hg9.cell h0.2.1, hg9.cell h0.2.2.1, hg9.cell h0.2.2.2⟩))
    clear hK K h0
    try simp only [Act.put, List.setIfInBounds_toArray, List.set_cons_zero, List.set_cons_succ]
    refine wpAnyH_done (by kernel_rfl) ?_ _
    clear h6
    clear hg9
    go_wp2
    go_end0
    exact ⟨rfl, HJ.out.gr QG.out, HF.out.trans (From.refl _ _) (Far.of_gr QG.out)⟩
  · rw [if_pos rfl]
    go_enter Try.func91, Try.ntmps91
    go_wp2_with fail
    generalize (w.alloc (.cells #[.int .i64 nmn, .int .i64 nmx] 134)).setCell ⟨b, 27, none⟩ (.bool true) = w1 at *
    have c25 := HJ.out.lo
    have c26 := HJ.out.hi
    have b0 := HBX.out.cell (i := 0) rfl
    have b1 := HBX.out.cell (i := 1) rfl
    clear c7 f7
    refine wp_region_held_drew (S := (fun w9 => w9.cell? ⟨w.heap.size, 0, none⟩ = some (.int .i64 nmn) ∧ w9.cell? ⟨w.heap.size, 1, none⟩ = some (.int .i64 nmx) ∧ w9.cell? ⟨b, 25, none⟩ = some (.int .i64 c.lo) ∧ w9.cell? ⟨b, 26, none⟩ = some (.int .i64 c.hi))) (by kernel_rfl) ?invb (fun h0 => ?_)
    case invb => ((try dsimp only); (exact ⟨b0, b1, c25, c26⟩))
    refine wpAnyH_take (i := 0) (oi := { dst := some 7, op := Go.Op.load 134 (Go.Operand.tmp 3), type := 134, pos := "clock.go:73", after := #[], guard := none }) (v := ?vb1) rfl (by kernel_rfl) (by kernel_rfl) (by kernel_rfl) (fun _ _ _ h => h) (Or.inl ⟨by rfl, ?rb1⟩) (by assumption) ?_
    case rb1 => (intro w hSw; (try dsimp only at hSw); (go_simp <;> with_reducible rfl))
    try simp only [Act.put, List.setIfInBounds_toArray, List.set_cons_zero, List.set_cons_succ]
    refine wpAnyH_take (i := 1) (oi := { dst := some 8, op := Go.Op.move (Go.Operand.tmp 0), type := 76, pos := "clock.go:73", after := #[], guard := none }) (v := ?vb2) rfl (by kernel_rfl) (by kernel_rfl) (by kernel_rfl) (fun _ _ _ h => h) (Or.inl ⟨by rfl, ?rb2⟩) (by assumption) ?_
    case rb2 => (intro w hSw; (try dsimp only at hSw); (go_simp <;> with_reducible rfl))
    try simp only [Act.put, List.setIfInBounds_toArray, List.set_cons_zero, List.set_cons_succ]
    refine wpAnyH_take (i := 2) (oi := { dst := some 9, op := Go.Op.nilCheck (Go.Operand.tmp 8), type := 0, pos := "clock.go:73", after := #[{ on := 1, ground := Go.Ground.data }], guard := none }) (v := ?vb3) rfl (by kernel_rfl) (by kernel_rfl) (by kernel_rfl) (fun _ _ _ h => h) (Or.inl ⟨by rfl, ?rb3⟩) (by assumption) ?_
    case rb3 => (intro w hSw; (try dsimp only at hSw); (go_simp <;> with_reducible rfl))
    try simp only [Act.put, List.setIfInBounds_toArray, List.set_cons_zero, List.set_cons_succ]
    refine wpAnyH_take (i := 3) (oi := { dst := some 10, op := Go.Op.fieldAddr 137 (Go.Operand.tmp 9) 3, type := 0, pos := "clock.go:73", after := #[{ on := 2, ground := Go.Ground.data }], guard := none }) (v := ?vb4) rfl (by kernel_rfl) (by kernel_rfl) (by kernel_rfl) (fun _ _ _ h => h) (Or.inl ⟨by rfl, ?rb4⟩) (by assumption) ?_
    case rb4 => (intro w hSw; (try dsimp only at hSw); (go_simp <;> with_reducible rfl))
    try simp only [Act.put, List.setIfInBounds_toArray, List.set_cons_zero, List.set_cons_succ]
    refine wpAnyH_take (i := 4) (oi := { dst := some 11, op := Go.Op.load 134 (Go.Operand.tmp 10), type := 134, pos := "clock.go:73", after := #[{ on := 3, ground := Go.Ground.data }], guard := none }) (v := ?vb5) rfl (by kernel_rfl) (by kernel_rfl) (by kernel_rfl) (fun _ _ _ h => h) (Or.inl ⟨by rfl, ?rb5⟩) (by assumption) ?_
    case rb5 => (intro w hSw; (try dsimp only at hSw); (go_simp <;> with_reducible rfl))
    try simp only [Act.put, List.setIfInBounds_toArray, List.set_cons_zero, List.set_cons_succ]
    refine wpAnyH_ready (rs := [5]) (by kernel_rfl) (by simp) ?_
    refine AllReadyH.cons (o := { dst := some 12, op := Go.Op.call { callee := Go.Callee.value (Go.Operand.func 131), args := #[Go.Operand.tmp 7, Go.Operand.tmp 11], argTypes := #[134, 134] }, type := 4, pos := "clock.go:73", after := #[{ on := 0, ground := Go.Ground.data }, { on := 4, ground := Go.Ground.data }], guard := none }) rfl (fun K hK => ?_) AllReadyH.nil
    go_simp
    go_at_call 131
    refine (HW.out _).mono ?_
    rintro e w9 ⟨rfl, hg9⟩
    have QG := Lib.hid ((Gr.refl w1).drew.trans hg9)
    first | refine hK.out _ _ ?sb6 (fun h6 => ?_) | (go_wp2_with fail; refine hK.out _ _ ?sb6 (fun h6 => ?_))
    case sb6 => ((try dsimp only); (exact ⟨hg9.cell h0.1, hg9.cell h0.2.1, hg9.cell h0.2.2.1, hg9.cell h0.2.2.2⟩))
    clear hK K h0
    try simp only [Act.put, List.setIfInBounds_toArray, List.set_cons_zero, List.set_cons_succ]
    refine wpAnyH_done (by kernel_rfl) ?_ _
    have z0 := h6.1
    have z1 := h6.2.1
    have z5 := h6.2.2.1
    have z6 := h6.2.2.2
    clear h6
    clear hg9
    have H9 := Lib.hid (HJ.out.gr QG.out)
    have y5 := H9.out.free 25
    have y6 := H9.out.free 26
    go_wp2
    go_end0
    have hm := HM.out _ H9.out
    exact ⟨rfl, hm.1, (HF.out.trans (From.refl _ _) (Far.of_gr QG.out)).trans (From.refl _ _) hm.2⟩
/-- The advances of the step. -/
def byL (c : Clk) : List Int := (List.range c.n).map c.by'
theorem byL_len (c : Clk) : (byL c).length = c.n := by simp [byL]
theorem byL_get (c : Clk) (i : Nat) (h : i < c.n) : (byL c).getD i 0 = c.by' i := by
  unfold byL
  rw [List.getD_eq_getElem?_getD, List.getElem?_map, List.getElem?_range h]
  rfl
theorem foldl_min_le : ∀ (L : List Int) (a : Int), L.foldl min a ≤ a ∧ (∀ x ∈ L, L.foldl min a ≤ x) ∧ (L.foldl min a = a ∨ L.foldl min a ∈ L)
  | [], a => by simp
  | y :: t, a => by
    rw [List.foldl_cons]
    obtain ⟨h1, h2, h3⟩ := foldl_min_le t (min a y)
    refine ⟨by omega, fun x hx => ?_, ?_⟩
    · rcases List.mem_cons.1 hx with rfl | hx
      · omega
      · exact h2 x hx
    · rcases h3 with h3 | h3
      · by_cases e : a ≤ y
        · exact .inl (by rw [h3]; omega)
        · exact .inr (by rw [h3, show min a y = y by omega]; exact List.mem_cons_self ..)
      · exact .inr (List.mem_cons_of_mem _ h3)
theorem foldl_max_le : ∀ (L : List Int) (a : Int), a ≤ L.foldl max a ∧ (∀ x ∈ L, x ≤ L.foldl max a) ∧ (L.foldl max a = a ∨ L.foldl max a ∈ L)
  | [], a => by simp
  | y :: t, a => by
    rw [List.foldl_cons]
    obtain ⟨h1, h2, h3⟩ := foldl_max_le t (max a y)
    refine ⟨by omega, fun x hx => ?_, ?_⟩
    · rcases List.mem_cons.1 hx with rfl | hx
      · omega
      · exact h2 x hx
    · rcases h3 with h3 | h3
      · by_cases e : y ≤ a
        · exact .inl (by rw [h3]; omega)
        · exact .inr (by rw [h3, show max a y = y by omega]; exact List.mem_cons_self ..)
      · exact .inr (List.mem_cons_of_mem _ h3)
theorem min_facts {L : List Int} (h : 0 < L.length) : (∀ x ∈ L, Lib.minOf L ≤ x) ∧ Lib.minOf L ∈ L := by
  match L, h with
  | y :: t, _ =>
    have hf := foldl_min_le (y :: t) y
    refine ⟨hf.2.1, ?_⟩
    rcases hf.2.2 with e | e
    · show List.foldl min y (y :: t) ∈ _; rw [e]; exact List.mem_cons_self ..
    · exact e
theorem max_facts {L : List Int} (h : 0 < L.length) : (∀ x ∈ L, x ≤ Lib.maxOf L) ∧ Lib.maxOf L ∈ L := by
  match L, h with
  | y :: t, _ =>
    have hf := foldl_max_le (y :: t) y
    refine ⟨hf.2.1, ?_⟩
    rcases hf.2.2 with e | e
    · show List.foldl max y (y :: t) ∈ _; rw [e]; exact List.mem_cons_self ..
    · exact e
theorem byL_mem {c : Clk} (h : c.Ok) {x : Int} (hx : x ∈ byL c) : 0 ≤ x ∧ x ≤ 1099511627776 := by
  unfold byL at hx
  obtain ⟨i, _, rfl⟩ := List.mem_map.1 hx
  exact h.by' i
def clearC (c : Clk) : Clk := ⟨c.n, c.now, fun i => if i < c.n then 0 else c.by' i, c.lo, c.hi, c.jd⟩
def stepC (c : Clk) : Clk := clearC (if 1 < c.n then judgeC c (Lib.minOf (byL c)) (Lib.maxOf (byL c)) else c)
theorem clearC_ok {c : Clk} (h : c.Ok) : (clearC c).Ok := by
  refine ⟨h.n, h.now, fun i => ?_, fun i => ?_, h.lo, h.hi⟩
  · show 0 ≤ (if i < c.n then (0 : Int) else c.by' i) ∧ (if i < c.n then (0 : Int) else c.by' i) ≤ _
    split
    · omega
    · exact h.by' i
  · show (if i < c.n then (0 : Int) else c.by' i) ≤ c.now i
    split
    · exact (h.now i).1
    · exact h.sum i
theorem zeros_int (n : Nat) : (Builtin.zeroCells (Value.int .i64 0).cells n).toList = List.replicate n (.int .i64 0) := by
  apply List.ext_getElem
  · simp [Builtin.zeroCells, Value.cells]
  · intro i h1 h2
    simp [Builtin.zeroCells, Value.cells]
    rw [Nat.mod_one]; rfl
theorem ClkIs.cleared {w : World} {b : Nat} {c : Clk} (h : ClkIs w b c) : ClkTo b w (clearC c) (w.setCells b 13 (List.replicate c.n (.int .i64 0))) := by
  have hn := h.ok.n
  have hs : ∀ o, (o < 13 ∨ 13 + c.n ≤ o) → (w.setCells b 13 (List.replicate c.n (.int .i64 0))).cell? ⟨b, o, none⟩ = w.cell? ⟨b, o, none⟩ := fun o h1 => by
    rw [World.cell?_setCells_out _ _ _ _ _ (fun _ _ => by rw [List.length_replicate]; exact h1)]
  have hf : ∀ (vs : List Value) (o : Nat) (w : World), Far b (.slice none 0 0) w (w.setCells b o vs) := fun vs o w => ⟨(grown_cells b vs o w).os, (grown_cells b vs o w).tape, (grown_cells b vs o w).output, (grown_cells b vs o w).size, fun k hk h1 _ => (grown_cells b vs o w).block k hk (by simp; exact h1)⟩
  refine ⟨⟨(hs 0 (by omega)).trans h.n, fun i hi => (hs _ (by omega)).trans (h.now i hi), fun i hi => ?_, (hs 25 (by omega)).trans h.lo, (hs 26 (by omega)).trans h.hi, (hs 27 (by omega)).trans h.jd, fun i => by rw [World.frozen?_setCells]; exact h.free i, clearC_ok h.ok⟩, hf _ _ _⟩
  show _ = some (Value.int .i64 (if i < c.n then (0 : Int) else c.by' i))
  by_cases e : i < c.n
  · rw [if_pos e]
    have := World.cell?_setCells_in b (List.replicate c.n (.int .i64 0)) 13 w (fun j hj => by rw [List.length_replicate] at hj; rw [h.by' j (by omega)]; rfl) i (by rw [List.length_replicate]; exact e)
    rw [this]
    simp
  · rw [if_neg e, hs _ (by omega)]
    exact h.by' i hi
theorem zero_int (w : World) : (zeroValue 3).run Try.prog w = .ok (.int .i64 0) w := by kernel_rfl
end Go.Proofs.Ytkihencimbdoiaa
