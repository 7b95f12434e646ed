import Derived.Test.YtihhfdkcggnjpaaM10b
import Derived.WalkKit
import Derived.ProofKit
import Derived.LoopTactic
import Derived.Outline
import Derived.WalkSpells
import Derived.WalkLawsBesides
import Derived.Lib.Hide
import Derived.Deep.LoopGhost
import Derived.Deep.QuietTactic
import Derived.BigQuiet
import Derived.ShutString
import Derived.IntWalk
import Derived.Deep.RegionHeld3
namespace Go.Proofs.Ytihhfdkcggnjpaa
open Go.ChangeShapes Go.WideShapes Go.ChangeAt Go.RowKit
open Enc Bal
set_option linter.unusedVariables false
set_option linter.unusedSimpArgs false
set_option maxRecDepth 100000 in
set_option maxHeartbeats 4000000 in
theorem refSame_any {ba bb : Nat} {la lb : Option Addr} {qa qb : Nat} (a b : Mg) (w : World) (h1 : w.ownsRow ba 164 4 (.slice la a.L.length qa) a.L.length (rcells encE a.L)) (h2 : w.ownsRow bb 164 4 (.slice lb b.L.length qb) b.L.length (rcells encE b.L)) (ha : a.Sm) (hb : b.Sm) (ca : a.check = 0) (cb : b.check = 0) :
    Calls Try.prog 41 #[.agg #[.int .i64 a.kd, .int .i64 a.frm, .int .i64 a.tt, .int .i64 a.sub, .int .u64 a.c, .int .i64 a.n, .int .i64 a.slot, .int .i64 a.time, .bool a.ok, .string a.text, .slice la a.L.length qa], .agg #[.int .i64 b.kd, .int .i64 b.frm, .int .i64 b.tt, .int .i64 b.sub, .int .u64 b.c, .int .i64 b.n, .int .i64 b.slot, .int .i64 b.time, .bool b.ok, .string b.text, .slice lb b.L.length qb]] w fun e w' => e = .returned (.bool (a.same b)) ∧ Gr w w' := by
  have HS := Mg.same_inside ha hb ca cb
  obtain ⟨ka, ea, _⟩ := Mg.ok_of ha ca
  obtain ⟨kb, eb, _⟩ := Mg.ok_of hb cb
  have NA : Hid (∀ w9, Gr w w9 → Calls Try.prog 103 #[.agg #[.int .i64 a.kd, .int .i64 a.frm, .int .i64 a.tt, .int .i64 a.sub, .int .u64 a.c, .int .i64 a.n, .int .i64 a.slot, .int .i64 a.time, .bool a.ok, .string a.text, .slice la a.L.length qa]] w9 fun e w' => e = .returned (.string a.inside) ∧ Gr w9 w') := Lib.hid fun w9 hg => by
    have h := inside_any a.kd a.frm a.tt a.sub a.c.toNat a.n.toNat a.slot a.time a.ok a.text a.L w9 (ownsRow_gr hg h1) ha.len ha.w0 ha.w1 ha.w2 ha.w3 ha.w4 (by have := ha.c; omega) (by have := ka.n; omega) ha.text ea
    rw [show ((a.c.toNat : Nat) : Int) = a.c by have := ha.c; omega, show ((a.n.toNat : Nat) : Int) = a.n by have := ka.n; omega] at h
    exact h
  have NB : Hid (∀ w9, Gr w w9 → Calls Try.prog 103 #[.agg #[.int .i64 b.kd, .int .i64 b.frm, .int .i64 b.tt, .int .i64 b.sub, .int .u64 b.c, .int .i64 b.n, .int .i64 b.slot, .int .i64 b.time, .bool b.ok, .string b.text, .slice lb b.L.length qb]] w9 fun e w' => e = .returned (.string b.inside) ∧ Gr w9 w') := Lib.hid fun w9 hg => by
    have h := inside_any b.kd b.frm b.tt b.sub b.c.toNat b.n.toNat b.slot b.time b.ok b.text b.L w9 (ownsRow_gr hg h2) hb.len hb.w0 hb.w1 hb.w2 hb.w3 hb.w4 (by have := hb.c; omega) (by have := kb.n; omega) hb.text eb
    rw [show ((b.c.toNat : Nat) : Int) = b.c by have := hb.c; omega, show ((b.n.toNat : Nat) : Int) = b.n by have := kb.n; omega] at h
    exact h
  clear ka ea kb eb ha hb ca cb h1 h2
  generalize hTA : a.inside = TA at *
  generalize hTB : b.inside = TB at *
  generalize hR : a.same b = R at *
  generalize la = lla at *
  generalize lb = llb at *
  obtain ⟨a0, a1, a2, a3, a4, a5, a6, a7, a8, a9, aL⟩ := a
  obtain ⟨b0, b1, b2, b3, b4, b5, b6, b7, b8, b9, bL⟩ := b
  simp only at *
  clear hTA hTB hR
  generalize aL.length = na at *
  generalize bL.length = nb at *
  have HG0 := Lib.hid (((Gr.refl w).alloc (.cells #[.int .i64 a0, .int .i64 a1, .int .i64 a2, .int .i64 a3, .int .u64 a4, .int .i64 a5, .int .i64 a6, .int .i64 a7, .bool a8, .string a9, .slice lla na qa] 81)).alloc (.cells #[.int .i64 b0, .int .i64 b1, .int .i64 b2, .int .i64 b3, .int .u64 b4, .int .i64 b5, .int .i64 b6, .int .i64 b7, .bool b8, .string b9, .slice llb nb qb] 81))
  have hz1 := ((Gr.refl w).alloc (.cells #[.int .i64 a0, .int .i64 a1, .int .i64 a2, .int .i64 a3, .int .u64 a4, .int .i64 a5, .int .i64 a6, .int .i64 a7, .bool a8, .string a9, .slice lla na qa] 81))
  have hOA := (Gr.refl (w.alloc (.cells #[.int .i64 a0, .int .i64 a1, .int .i64 a2, .int .i64 a3, .int .u64 a4, .int .i64 a5, .int .i64 a6, .int .i64 a7, .bool a8, .string a9, .slice lla na qa] 81))).alloc (.cells #[.int .i64 b0, .int .i64 b1, .int .i64 b2, .int .i64 b3, .int .u64 b4, .int .i64 b5, .int .i64 b6, .int .i64 b7, .bool b8, .string b9, .slice llb nb qb] 81) |>.own
  have hOB := (Gr.refl ((w.alloc (.cells #[.int .i64 a0, .int .i64 a1, .int .i64 a2, .int .i64 a3, .int .u64 a4, .int .i64 a5, .int .i64 a6, .int .i64 a7, .bool a8, .string a9, .slice lla na qa] 81)).alloc (.cells #[.int .i64 b0, .int .i64 b1, .int .i64 b2, .int .i64 b3, .int .u64 b4, .int .i64 b5, .int .i64 b6, .int .i64 b7, .bool b8, .string b9, .slice llb nb qb] 81))).own
  rw [show (w.alloc (.cells #[.int .i64 a0, .int .i64 a1, .int .i64 a2, .int .i64 a3, .int .u64 a4, .int .i64 a5, .int .i64 a6, .int .i64 a7, .bool a8, .string a9, .slice lla na qa] 81)).heap.size = w.heap.size + 1 by simp] at hOB
  have k0 := hOA.1 0 _ rfl
  have k1 := hOA.1 1 _ rfl
  have k2 := hOA.1 2 _ rfl
  have k3 := hOA.1 3 _ rfl
  have k4 := hOA.1 4 _ rfl
  have k5 := hOA.1 5 _ rfl
  have k6 := hOA.1 6 _ rfl
  have k7 := hOA.1 7 _ rfl
  have k8 := hOA.1 8 _ rfl
  have k9 := hOA.1 9 _ rfl
  have k10 := hOA.1 10 _ rfl
  have j0 := hOB.1 0 _ rfl
  have j1 := hOB.1 1 _ rfl
  have j2 := hOB.1 2 _ rfl
  have j3 := hOB.1 3 _ rfl
  have j4 := hOB.1 4 _ rfl
  have j5 := hOB.1 5 _ rfl
  have j6 := hOB.1 6 _ rfl
  have j7 := hOB.1 7 _ rfl
  have j8 := hOB.1 8 _ rfl
  have j9 := hOB.1 9 _ rfl
  have j10 := hOB.1 10 _ rfl
  clear hOA hOB hz1
  cases hk : (a0 == b0)
  · have HK := Lib.hid hk
    have HR : Hid (R = false) := Lib.hid (by rw [← HS, hk]; rfl)
    clear HS hk
    go_enter Try.func41, Try.ntmps41
    go_wp2
    generalize w.heap.size + 1 = r at *
    generalize w.heap.size = p at *
    generalize (w.alloc (.cells #[.int .i64 a0, .int .i64 a1, .int .i64 a2, .int .i64 a3, .int .u64 a4, .int .i64 a5, .int .i64 a6, .int .i64 a7, .bool a8, .string a9, .slice lla na qa] 81)).alloc (.cells #[.int .i64 b0, .int .i64 b1, .int .i64 b2, .int .i64 b3, .int .u64 b4, .int .i64 b5, .int .i64 b6, .int .i64 b7, .bool b8, .string b9, .slice llb nb qb] 81) = wz at *
    have HX : Hid (∀ w0 w9 : World, Gr w0 w9 → (fun w9 => Gr wz w9 ∧ w9.cell? ⟨p, 0, none⟩ = some (.int .i64 a0) ∧ w9.cell? ⟨p, 1, none⟩ = some (.int .i64 a1) ∧ w9.cell? ⟨p, 2, none⟩ = some (.int .i64 a2) ∧ w9.cell? ⟨p, 3, none⟩ = some (.int .i64 a3) ∧ w9.cell? ⟨p, 4, none⟩ = some (.int .u64 a4) ∧ w9.cell? ⟨p, 5, none⟩ = some (.int .i64 a5) ∧ w9.cell? ⟨p, 6, none⟩ = some (.int .i64 a6) ∧ w9.cell? ⟨p, 7, none⟩ = some (.int .i64 a7) ∧ w9.cell? ⟨p, 8, none⟩ = some (.bool a8) ∧ w9.cell? ⟨p, 9, none⟩ = some (.string a9) ∧ w9.cell? ⟨p, 10, none⟩ = some (.slice lla na qa) ∧ w9.cell? ⟨r, 0, none⟩ = some (.int .i64 b0) ∧ w9.cell? ⟨r, 1, none⟩ = some (.int .i64 b1) ∧ w9.cell? ⟨r, 2, none⟩ = some (.int .i64 b2) ∧ w9.cell? ⟨r, 3, none⟩ = some (.int .i64 b3) ∧ w9.cell? ⟨r, 4, none⟩ = some (.int .u64 b4) ∧ w9.cell? ⟨r, 5, none⟩ = some (.int .i64 b5) ∧ w9.cell? ⟨r, 6, none⟩ = some (.int .i64 b6) ∧ w9.cell? ⟨r, 7, none⟩ = some (.int .i64 b7) ∧ w9.cell? ⟨r, 8, none⟩ = some (.bool b8) ∧ w9.cell? ⟨r, 9, none⟩ = some (.string b9) ∧ w9.cell? ⟨r, 10, none⟩ = some (.slice llb nb qb)) w0 → (fun w9 => Gr wz w9 ∧ w9.cell? ⟨p, 0, none⟩ = some (.int .i64 a0) ∧ w9.cell? ⟨p, 1, none⟩ = some (.int .i64 a1) ∧ w9.cell? ⟨p, 2, none⟩ = some (.int .i64 a2) ∧ w9.cell? ⟨p, 3, none⟩ = some (.int .i64 a3) ∧ w9.cell? ⟨p, 4, none⟩ = some (.int .u64 a4) ∧ w9.cell? ⟨p, 5, none⟩ = some (.int .i64 a5) ∧ w9.cell? ⟨p, 6, none⟩ = some (.int .i64 a6) ∧ w9.cell? ⟨p, 7, none⟩ = some (.int .i64 a7) ∧ w9.cell? ⟨p, 8, none⟩ = some (.bool a8) ∧ w9.cell? ⟨p, 9, none⟩ = some (.string a9) ∧ w9.cell? ⟨p, 10, none⟩ = some (.slice lla na qa) ∧ w9.cell? ⟨r, 0, none⟩ = some (.int .i64 b0) ∧ w9.cell? ⟨r, 1, none⟩ = some (.int .i64 b1) ∧ w9.cell? ⟨r, 2, none⟩ = some (.int .i64 b2) ∧ w9.cell? ⟨r, 3, none⟩ = some (.int .i64 b3) ∧ w9.cell? ⟨r, 4, none⟩ = some (.int .u64 b4) ∧ w9.cell? ⟨r, 5, none⟩ = some (.int .i64 b5) ∧ w9.cell? ⟨r, 6, none⟩ = some (.int .i64 b6) ∧ w9.cell? ⟨r, 7, none⟩ = some (.int .i64 b7) ∧ w9.cell? ⟨r, 8, none⟩ = some (.bool b8) ∧ w9.cell? ⟨r, 9, none⟩ = some (.string b9) ∧ w9.cell? ⟨r, 10, none⟩ = some (.slice llb nb qb)) w9) := Lib.hid fun w0 w9 hg ⟨h, q0, q1, q2, q3, q4, q5, q6, q7, q8, q9, q10, q11, q12, q13, q14, q15, q16, q17, q18, q19, q20, q21⟩ => ⟨h.trans hg, hg.cell q0, hg.cell q1, hg.cell q2, hg.cell q3, hg.cell q4, hg.cell q5, hg.cell q6, hg.cell q7, hg.cell q8, hg.cell q9, hg.cell q10, hg.cell q11, hg.cell q12, hg.cell q13, hg.cell q14, hg.cell q15, hg.cell q16, hg.cell q17, hg.cell q18, hg.cell q19, hg.cell q20, hg.cell q21⟩
    have HS0 := And.intro (Gr.refl wz) (And.intro (k0) (And.intro (k1) (And.intro (k2) (And.intro (k3) (And.intro (k4) (And.intro (k5) (And.intro (k6) (And.intro (k7) (And.intro (k8) (And.intro (k9) (And.intro (k10) (And.intro (j0) (And.intro (j1) (And.intro (j2) (And.intro (j3) (And.intro (j4) (And.intro (j5) (And.intro (j6) (And.intro (j7) (And.intro (j8) (And.intro (j9) (j10))))))))))))))))))))))
    clear k0 j0 k1 j1 k2 j2 k3 j3 k4 j4 k5 j5 k6 j6 k7 j7 k8 j8 k9 j9 k10 j10
    refine wp_region_held_drew (S := (fun w9 => Gr wz w9 ∧ w9.cell? ⟨p, 0, none⟩ = some (.int .i64 a0) ∧ w9.cell? ⟨p, 1, none⟩ = some (.int .i64 a1) ∧ w9.cell? ⟨p, 2, none⟩ = some (.int .i64 a2) ∧ w9.cell? ⟨p, 3, none⟩ = some (.int .i64 a3) ∧ w9.cell? ⟨p, 4, none⟩ = some (.int .u64 a4) ∧ w9.cell? ⟨p, 5, none⟩ = some (.int .i64 a5) ∧ w9.cell? ⟨p, 6, none⟩ = some (.int .i64 a6) ∧ w9.cell? ⟨p, 7, none⟩ = some (.int .i64 a7) ∧ w9.cell? ⟨p, 8, none⟩ = some (.bool a8) ∧ w9.cell? ⟨p, 9, none⟩ = some (.string a9) ∧ w9.cell? ⟨p, 10, none⟩ = some (.slice lla na qa) ∧ w9.cell? ⟨r, 0, none⟩ = some (.int .i64 b0) ∧ w9.cell? ⟨r, 1, none⟩ = some (.int .i64 b1) ∧ w9.cell? ⟨r, 2, none⟩ = some (.int .i64 b2) ∧ w9.cell? ⟨r, 3, none⟩ = some (.int .i64 b3) ∧ w9.cell? ⟨r, 4, none⟩ = some (.int .u64 b4) ∧ w9.cell? ⟨r, 5, none⟩ = some (.int .i64 b5) ∧ w9.cell? ⟨r, 6, none⟩ = some (.int .i64 b6) ∧ w9.cell? ⟨r, 7, none⟩ = some (.int .i64 b7) ∧ w9.cell? ⟨r, 8, none⟩ = some (.bool b8) ∧ w9.cell? ⟨r, 9, none⟩ = some (.string b9) ∧ w9.cell? ⟨r, 10, none⟩ = some (.slice llb nb qb))) (by kernel_rfl) ?invb (fun h0 => ?_)
    case invb => ((try dsimp only); (first | exact HS0 | exact HX.out _ _ ((Gr.refl _).drew) HS0))
    refine wpAnyH_take (i := 0) (oi := { dst := some 5, op := Go.Op.fieldAddr 81 (Go.Operand.tmp 2) 0, type := 0, pos := "ref.go:119", after := #[], guard := none }) (v := ?vb1) rfl (by kernel_rfl) (by kernel_rfl) (by kernel_rfl) (fun _ _ _ h => h) (Or.inl ⟨by rfl, ?rb1⟩) (by assumption) ?_
    case rb1 => (intro w hSw; (try dsimp only at hSw); (go_simp <;> with_reducible rfl))
    try simp only [Act.put, List.setIfInBounds_toArray, List.set_cons_zero, List.set_cons_succ]
    refine wpAnyH_take (i := 1) (oi := { dst := some 6, op := Go.Op.load 3 (Go.Operand.tmp 5), type := 3, pos := "ref.go:119", after := #[{ on := 0, ground := Go.Ground.data }], guard := none }) (v := ?vb2) rfl (by kernel_rfl) (by kernel_rfl) (by kernel_rfl) (fun _ _ _ h => h) (Or.inl ⟨by rfl, ?rb2⟩) (by assumption) ?_
    case rb2 => (intro w hSw; (try dsimp only at hSw); (go_simp <;> with_reducible rfl))
    try simp only [Act.put, List.setIfInBounds_toArray, List.set_cons_zero, List.set_cons_succ]
    refine wpAnyH_take (i := 2) (oi := { dst := some 7, op := Go.Op.fieldAddr 81 (Go.Operand.tmp 3) 0, type := 0, pos := "ref.go:119", after := #[], guard := none }) (v := ?vb3) rfl (by kernel_rfl) (by kernel_rfl) (by kernel_rfl) (fun _ _ _ h => h) (Or.inl ⟨by rfl, ?rb3⟩) (by assumption) ?_
    case rb3 => (intro w hSw; (try dsimp only at hSw); (go_simp <;> with_reducible rfl))
    try simp only [Act.put, List.setIfInBounds_toArray, List.set_cons_zero, List.set_cons_succ]
    refine wpAnyH_take (i := 3) (oi := { dst := some 8, op := Go.Op.load 3 (Go.Operand.tmp 7), type := 3, pos := "ref.go:119", after := #[{ on := 2, ground := Go.Ground.data }], guard := none }) (v := ?vb4) rfl (by kernel_rfl) (by kernel_rfl) (by kernel_rfl) (fun _ _ _ h => h) (Or.inl ⟨by rfl, ?rb4⟩) (by assumption) ?_
    case rb4 => (intro w hSw; (try dsimp only at hSw); (go_simp <;> with_reducible rfl))
    try simp only [Act.put, List.setIfInBounds_toArray, List.set_cons_zero, List.set_cons_succ]
    refine wpAnyH_take (i := 4) (oi := { dst := some 9, op := Go.Op.binOp Go.BinOp.eql 3 (Go.Operand.tmp 6) (Go.Operand.tmp 8) 3, type := 4, pos := "ref.go:119", after := #[{ on := 1, ground := Go.Ground.data }, { on := 3, ground := Go.Ground.data }], guard := none }) (v := (.bool false)) rfl (by kernel_rfl) (by kernel_rfl) (by kernel_rfl) (fun _ _ _ h => h) (Or.inl ⟨by rfl, ?rb5⟩) (by assumption) ?_
    case rb5 => (intro w hSw; (try dsimp only at hSw); go_simp; first | exact beq_iff_eq.1 HK.out | exact (fun e => by have h := HK.out; rw [e] at h; simp at h) | (rw [HK.out]; done) | (simp only [HK.out]; done) | (trace_state; fail))
    try simp only [Act.put, List.setIfInBounds_toArray, List.set_cons_zero, List.set_cons_succ]
    refine wpAnyH_take (i := 5) (oi := { dst := some 10, op := Go.Op.move (Go.Operand.tmp 9), type := 4, pos := "ref.go:119", after := #[{ on := 4, ground := Go.Ground.data }], guard := none }) (v := ?vb6) rfl (by kernel_rfl) (by kernel_rfl) (by kernel_rfl) (fun _ _ _ h => h) (Or.inl ⟨by rfl, ?rb6⟩) (by assumption) ?_
    case rb6 => (intro w hSw; (try dsimp only at hSw); (go_simp <;> with_reducible rfl))
    try simp only [Act.put, List.setIfInBounds_toArray, List.set_cons_zero, List.set_cons_succ]
    refine wpAnyH_take (i := 6) (oi := { dst := some 11, op := Go.Op.load 81 (Go.Operand.tmp 2), type := 81, pos := "ref.go:119", after := #[{ on := 5, ground := Go.Ground.guard }], guard := some (5, true) }) (v := undef) rfl (by kernel_rfl) (by kernel_rfl) (by kernel_rfl) (fun _ _ _ h => h) (Or.inr ⟨by rfl, rfl⟩) (by assumption) ?_
    try simp only [Act.put, List.setIfInBounds_toArray, List.set_cons_zero, List.set_cons_succ]
    refine wpAnyH_take (i := 7) (oi := { dst := some 12, op := Go.Op.call { callee := Go.Callee.value (Go.Operand.func 103), args := #[Go.Operand.tmp 11], argTypes := #[81] }, type := 9, pos := "ref.go:119", after := #[{ on := 6, ground := Go.Ground.data }, { on := 5, ground := Go.Ground.chain }, { on := 5, ground := Go.Ground.guard }], guard := some (5, true) }) (v := undef) rfl (by kernel_rfl) (by kernel_rfl) (by kernel_rfl) (fun _ _ _ h => h) (Or.inr ⟨by rfl, rfl⟩) (by assumption) ?_
    try simp only [Act.put, List.setIfInBounds_toArray, List.set_cons_zero, List.set_cons_succ]
    refine wpAnyH_take (i := 8) (oi := { dst := some 13, op := Go.Op.load 81 (Go.Operand.tmp 3), type := 81, pos := "ref.go:119", after := #[{ on := 5, ground := Go.Ground.guard }], guard := some (5, true) }) (v := undef) rfl (by kernel_rfl) (by kernel_rfl) (by kernel_rfl) (fun _ _ _ h => h) (Or.inr ⟨by rfl, rfl⟩) (by assumption) ?_
    try simp only [Act.put, List.setIfInBounds_toArray, List.set_cons_zero, List.set_cons_succ]
    refine wpAnyH_take (i := 9) (oi := { dst := some 14, op := Go.Op.call { callee := Go.Callee.value (Go.Operand.func 103), args := #[Go.Operand.tmp 13], argTypes := #[81] }, type := 9, pos := "ref.go:119", after := #[{ on := 8, ground := Go.Ground.data }, { on := 7, ground := Go.Ground.chain }, { on := 5, ground := Go.Ground.guard }], guard := some (5, true) }) (v := undef) rfl (by kernel_rfl) (by kernel_rfl) (by kernel_rfl) (fun _ _ _ h => h) (Or.inr ⟨by rfl, rfl⟩) (by assumption) ?_
    try simp only [Act.put, List.setIfInBounds_toArray, List.set_cons_zero, List.set_cons_succ]
    refine wpAnyH_take (i := 10) (oi := { dst := some 15, op := Go.Op.binOp Go.BinOp.eql 9 (Go.Operand.tmp 12) (Go.Operand.tmp 14) 9, type := 4, pos := "ref.go:119", after := #[{ on := 7, ground := Go.Ground.data }, { on := 9, ground := Go.Ground.data }, { on := 5, ground := Go.Ground.guard }], guard := some (5, true) }) (v := undef) rfl (by kernel_rfl) (by kernel_rfl) (by kernel_rfl) (fun _ _ _ h => h) (Or.inr ⟨by rfl, rfl⟩) (by assumption) ?_
    try simp only [Act.put, List.setIfInBounds_toArray, List.set_cons_zero, List.set_cons_succ]
    refine wpAnyH_take (i := 11) (oi := { dst := some 16, op := Go.Op.pick (Go.Operand.tmp 10) (Go.Operand.tmp 15) (Go.Operand.const (Go.Value.bool false)), type := 4, pos := "ref.go:119", after := #[{ on := 5, ground := Go.Ground.data }, { on := 10, ground := Go.Ground.data }], guard := none }) (v := ?vb7) rfl (by kernel_rfl) (by kernel_rfl) (by kernel_rfl) (fun _ _ _ h => h) (Or.inl ⟨by rfl, ?rb7⟩) (by assumption) ?_
    case rb7 => (intro w hSw; (try dsimp only at hSw); (go_simp <;> with_reducible rfl))
    try simp only [Act.put, List.setIfInBounds_toArray, List.set_cons_zero, List.set_cons_succ]
    refine wpAnyH_take (i := 12) (oi := { dst := some 4, op := Go.Op.assign (Go.Operand.tmp 16), type := 4, pos := "ref.go:119", after := #[{ on := 11, ground := Go.Ground.data }, { on := 9, ground := Go.Ground.chain }, { on := 0, ground := Go.Ground.phase }, { on := 1, ground := Go.Ground.phase }, { on := 2, ground := Go.Ground.phase }, { on := 3, ground := Go.Ground.phase }, { on := 4, ground := Go.Ground.phase }, { on := 5, ground := Go.Ground.phase }, { on := 6, ground := Go.Ground.phase }, { on := 7, ground := Go.Ground.phase }, { on := 8, ground := Go.Ground.phase }, { on := 9, ground := Go.Ground.phase }, { on := 10, ground := Go.Ground.phase }, { on := 11, ground := Go.Ground.phase }], guard := none }) (v := ?vb8) rfl (by kernel_rfl) (by kernel_rfl) (by kernel_rfl) (fun _ _ _ h => h) (Or.inl ⟨by rfl, ?rb8⟩) (by assumption) ?_
    case rb8 => (intro w hSw; (try dsimp only at hSw); (go_simp <;> with_reducible rfl))
    try simp only [Act.put, List.setIfInBounds_toArray, List.set_cons_zero, List.set_cons_succ]
    refine wpAnyH_done (by kernel_rfl) ?_ _
    have G9 := Lib.hid (h0).1
    clear h0
    go_wp2
    go_ret
    exact ⟨by rw [HR.out]; rfl, HG0.out.trans G9.out⟩
  · have HK := Lib.hid hk
    have HD : Hid ((TA.toList == TB.toList) = R) := Lib.hid (by rw [← HS, hk, Bool.true_and])
    clear HS hk
    go_enter Try.func41, Try.ntmps41
    go_wp2
    generalize w.heap.size + 1 = r at *
    generalize w.heap.size = p at *
    generalize (w.alloc (.cells #[.int .i64 a0, .int .i64 a1, .int .i64 a2, .int .i64 a3, .int .u64 a4, .int .i64 a5, .int .i64 a6, .int .i64 a7, .bool a8, .string a9, .slice lla na qa] 81)).alloc (.cells #[.int .i64 b0, .int .i64 b1, .int .i64 b2, .int .i64 b3, .int .u64 b4, .int .i64 b5, .int .i64 b6, .int .i64 b7, .bool b8, .string b9, .slice llb nb qb] 81) = wz at *
    have HX : Hid (∀ w0 w9 : World, Gr w0 w9 → (fun w9 => Gr wz w9 ∧ w9.cell? ⟨p, 0, none⟩ = some (.int .i64 a0) ∧ w9.cell? ⟨p, 1, none⟩ = some (.int .i64 a1) ∧ w9.cell? ⟨p, 2, none⟩ = some (.int .i64 a2) ∧ w9.cell? ⟨p, 3, none⟩ = some (.int .i64 a3) ∧ w9.cell? ⟨p, 4, none⟩ = some (.int .u64 a4) ∧ w9.cell? ⟨p, 5, none⟩ = some (.int .i64 a5) ∧ w9.cell? ⟨p, 6, none⟩ = some (.int .i64 a6) ∧ w9.cell? ⟨p, 7, none⟩ = some (.int .i64 a7) ∧ w9.cell? ⟨p, 8, none⟩ = some (.bool a8) ∧ w9.cell? ⟨p, 9, none⟩ = some (.string a9) ∧ w9.cell? ⟨p, 10, none⟩ = some (.slice lla na qa) ∧ w9.cell? ⟨r, 0, none⟩ = some (.int .i64 b0) ∧ w9.cell? ⟨r, 1, none⟩ = some (.int .i64 b1) ∧ w9.cell? ⟨r, 2, none⟩ = some (.int .i64 b2) ∧ w9.cell? ⟨r, 3, none⟩ = some (.int .i64 b3) ∧ w9.cell? ⟨r, 4, none⟩ = some (.int .u64 b4) ∧ w9.cell? ⟨r, 5, none⟩ = some (.int .i64 b5) ∧ w9.cell? ⟨r, 6, none⟩ = some (.int .i64 b6) ∧ w9.cell? ⟨r, 7, none⟩ = some (.int .i64 b7) ∧ w9.cell? ⟨r, 8, none⟩ = some (.bool b8) ∧ w9.cell? ⟨r, 9, none⟩ = some (.string b9) ∧ w9.cell? ⟨r, 10, none⟩ = some (.slice llb nb qb)) w0 → (fun w9 => Gr wz w9 ∧ w9.cell? ⟨p, 0, none⟩ = some (.int .i64 a0) ∧ w9.cell? ⟨p, 1, none⟩ = some (.int .i64 a1) ∧ w9.cell? ⟨p, 2, none⟩ = some (.int .i64 a2) ∧ w9.cell? ⟨p, 3, none⟩ = some (.int .i64 a3) ∧ w9.cell? ⟨p, 4, none⟩ = some (.int .u64 a4) ∧ w9.cell? ⟨p, 5, none⟩ = some (.int .i64 a5) ∧ w9.cell? ⟨p, 6, none⟩ = some (.int .i64 a6) ∧ w9.cell? ⟨p, 7, none⟩ = some (.int .i64 a7) ∧ w9.cell? ⟨p, 8, none⟩ = some (.bool a8) ∧ w9.cell? ⟨p, 9, none⟩ = some (.string a9) ∧ w9.cell? ⟨p, 10, none⟩ = some (.slice lla na qa) ∧ w9.cell? ⟨r, 0, none⟩ = some (.int .i64 b0) ∧ w9.cell? ⟨r, 1, none⟩ = some (.int .i64 b1) ∧ w9.cell? ⟨r, 2, none⟩ = some (.int .i64 b2) ∧ w9.cell? ⟨r, 3, none⟩ = some (.int .i64 b3) ∧ w9.cell? ⟨r, 4, none⟩ = some (.int .u64 b4) ∧ w9.cell? ⟨r, 5, none⟩ = some (.int .i64 b5) ∧ w9.cell? ⟨r, 6, none⟩ = some (.int .i64 b6) ∧ w9.cell? ⟨r, 7, none⟩ = some (.int .i64 b7) ∧ w9.cell? ⟨r, 8, none⟩ = some (.bool b8) ∧ w9.cell? ⟨r, 9, none⟩ = some (.string b9) ∧ w9.cell? ⟨r, 10, none⟩ = some (.slice llb nb qb)) w9) := Lib.hid fun w0 w9 hg ⟨h, q0, q1, q2, q3, q4, q5, q6, q7, q8, q9, q10, q11, q12, q13, q14, q15, q16, q17, q18, q19, q20, q21⟩ => ⟨h.trans hg, hg.cell q0, hg.cell q1, hg.cell q2, hg.cell q3, hg.cell q4, hg.cell q5, hg.cell q6, hg.cell q7, hg.cell q8, hg.cell q9, hg.cell q10, hg.cell q11, hg.cell q12, hg.cell q13, hg.cell q14, hg.cell q15, hg.cell q16, hg.cell q17, hg.cell q18, hg.cell q19, hg.cell q20, hg.cell q21⟩
    have HS0 := And.intro (Gr.refl wz) (And.intro (k0) (And.intro (k1) (And.intro (k2) (And.intro (k3) (And.intro (k4) (And.intro (k5) (And.intro (k6) (And.intro (k7) (And.intro (k8) (And.intro (k9) (And.intro (k10) (And.intro (j0) (And.intro (j1) (And.intro (j2) (And.intro (j3) (And.intro (j4) (And.intro (j5) (And.intro (j6) (And.intro (j7) (And.intro (j8) (And.intro (j9) (j10))))))))))))))))))))))
    clear k0 j0 k1 j1 k2 j2 k3 j3 k4 j4 k5 j5 k6 j6 k7 j7 k8 j8 k9 j9 k10 j10
    refine wp_region_held_drew (S := (fun w9 => Gr wz w9 ∧ w9.cell? ⟨p, 0, none⟩ = some (.int .i64 a0) ∧ w9.cell? ⟨p, 1, none⟩ = some (.int .i64 a1) ∧ w9.cell? ⟨p, 2, none⟩ = some (.int .i64 a2) ∧ w9.cell? ⟨p, 3, none⟩ = some (.int .i64 a3) ∧ w9.cell? ⟨p, 4, none⟩ = some (.int .u64 a4) ∧ w9.cell? ⟨p, 5, none⟩ = some (.int .i64 a5) ∧ w9.cell? ⟨p, 6, none⟩ = some (.int .i64 a6) ∧ w9.cell? ⟨p, 7, none⟩ = some (.int .i64 a7) ∧ w9.cell? ⟨p, 8, none⟩ = some (.bool a8) ∧ w9.cell? ⟨p, 9, none⟩ = some (.string a9) ∧ w9.cell? ⟨p, 10, none⟩ = some (.slice lla na qa) ∧ w9.cell? ⟨r, 0, none⟩ = some (.int .i64 b0) ∧ w9.cell? ⟨r, 1, none⟩ = some (.int .i64 b1) ∧ w9.cell? ⟨r, 2, none⟩ = some (.int .i64 b2) ∧ w9.cell? ⟨r, 3, none⟩ = some (.int .i64 b3) ∧ w9.cell? ⟨r, 4, none⟩ = some (.int .u64 b4) ∧ w9.cell? ⟨r, 5, none⟩ = some (.int .i64 b5) ∧ w9.cell? ⟨r, 6, none⟩ = some (.int .i64 b6) ∧ w9.cell? ⟨r, 7, none⟩ = some (.int .i64 b7) ∧ w9.cell? ⟨r, 8, none⟩ = some (.bool b8) ∧ w9.cell? ⟨r, 9, none⟩ = some (.string b9) ∧ w9.cell? ⟨r, 10, none⟩ = some (.slice llb nb qb))) (by kernel_rfl) ?inva (fun h0 => ?_)
    case inva => ((try dsimp only); (first | exact HS0 | exact HX.out _ _ ((Gr.refl _).drew) HS0))
    refine wpAnyH_take (i := 0) (oi := { dst := some 5, op := Go.Op.fieldAddr 81 (Go.Operand.tmp 2) 0, type := 0, pos := "ref.go:119", after := #[], guard := none }) (v := ?va1) rfl (by kernel_rfl) (by kernel_rfl) (by kernel_rfl) (fun _ _ _ h => h) (Or.inl ⟨by rfl, ?ra1⟩) (by assumption) ?_
    case ra1 => (intro w hSw; (try dsimp only at hSw); (go_simp <;> with_reducible rfl))
    try simp only [Act.put, List.setIfInBounds_toArray, List.set_cons_zero, List.set_cons_succ]
    refine wpAnyH_take (i := 1) (oi := { dst := some 6, op := Go.Op.load 3 (Go.Operand.tmp 5), type := 3, pos := "ref.go:119", after := #[{ on := 0, ground := Go.Ground.data }], guard := none }) (v := ?va2) rfl (by kernel_rfl) (by kernel_rfl) (by kernel_rfl) (fun _ _ _ h => h) (Or.inl ⟨by rfl, ?ra2⟩) (by assumption) ?_
    case ra2 => (intro w hSw; (try dsimp only at hSw); (go_simp <;> with_reducible rfl))
    try simp only [Act.put, List.setIfInBounds_toArray, List.set_cons_zero, List.set_cons_succ]
    refine wpAnyH_take (i := 2) (oi := { dst := some 7, op := Go.Op.fieldAddr 81 (Go.Operand.tmp 3) 0, type := 0, pos := "ref.go:119", after := #[], guard := none }) (v := ?va3) rfl (by kernel_rfl) (by kernel_rfl) (by kernel_rfl) (fun _ _ _ h => h) (Or.inl ⟨by rfl, ?ra3⟩) (by assumption) ?_
    case ra3 => (intro w hSw; (try dsimp only at hSw); (go_simp <;> with_reducible rfl))
    try simp only [Act.put, List.setIfInBounds_toArray, List.set_cons_zero, List.set_cons_succ]
    refine wpAnyH_take (i := 3) (oi := { dst := some 8, op := Go.Op.load 3 (Go.Operand.tmp 7), type := 3, pos := "ref.go:119", after := #[{ on := 2, ground := Go.Ground.data }], guard := none }) (v := ?va4) rfl (by kernel_rfl) (by kernel_rfl) (by kernel_rfl) (fun _ _ _ h => h) (Or.inl ⟨by rfl, ?ra4⟩) (by assumption) ?_
    case ra4 => (intro w hSw; (try dsimp only at hSw); (go_simp <;> with_reducible rfl))
    try simp only [Act.put, List.setIfInBounds_toArray, List.set_cons_zero, List.set_cons_succ]
    refine wpAnyH_take (i := 4) (oi := { dst := some 9, op := Go.Op.binOp Go.BinOp.eql 3 (Go.Operand.tmp 6) (Go.Operand.tmp 8) 3, type := 4, pos := "ref.go:119", after := #[{ on := 1, ground := Go.Ground.data }, { on := 3, ground := Go.Ground.data }], guard := none }) (v := (.bool true)) rfl (by kernel_rfl) (by kernel_rfl) (by kernel_rfl) (fun _ _ _ h => h) (Or.inl ⟨by rfl, ?ra5⟩) (by assumption) ?_
    case ra5 => (intro w hSw; (try dsimp only at hSw); go_simp; first | exact beq_iff_eq.1 HK.out | exact (fun e => by have h := HK.out; rw [e] at h; simp at h) | (rw [HK.out]; done) | (simp only [HK.out]; done) | (trace_state; fail))
    try simp only [Act.put, List.setIfInBounds_toArray, List.set_cons_zero, List.set_cons_succ]
    refine wpAnyH_take (i := 5) (oi := { dst := some 10, op := Go.Op.move (Go.Operand.tmp 9), type := 4, pos := "ref.go:119", after := #[{ on := 4, ground := Go.Ground.data }], guard := none }) (v := ?va6) rfl (by kernel_rfl) (by kernel_rfl) (by kernel_rfl) (fun _ _ _ h => h) (Or.inl ⟨by rfl, ?ra6⟩) (by assumption) ?_
    case ra6 => (intro w hSw; (try dsimp only at hSw); (go_simp <;> with_reducible rfl))
    try simp only [Act.put, List.setIfInBounds_toArray, List.set_cons_zero, List.set_cons_succ]
    refine wpAnyH_take (i := 6) (oi := { dst := some 11, op := Go.Op.load 81 (Go.Operand.tmp 2), type := 81, pos := "ref.go:119", after := #[{ on := 5, ground := Go.Ground.guard }], guard := some (5, true) }) (v := ?va7) rfl (by kernel_rfl) (by kernel_rfl) (by kernel_rfl) (fun _ _ _ h => h) (Or.inl ⟨by rfl, ?ra7⟩) (by assumption) ?_
    case ra7 => (intro w hSw; (try dsimp only at hSw); (go_simp <;> with_reducible rfl))
    try simp only [Act.put, List.setIfInBounds_toArray, List.set_cons_zero, List.set_cons_succ]
    refine wpAnyH_take (i := 8) (oi := { dst := some 13, op := Go.Op.load 81 (Go.Operand.tmp 3), type := 81, pos := "ref.go:119", after := #[{ on := 5, ground := Go.Ground.guard }], guard := some (5, true) }) (v := ?va8) rfl (by kernel_rfl) (by kernel_rfl) (by kernel_rfl) (fun _ _ _ h => h) (Or.inl ⟨by rfl, ?ra8⟩) (by assumption) ?_
    case ra8 => (intro w hSw; (try dsimp only at hSw); (go_simp <;> with_reducible rfl))
    try simp only [Act.put, List.setIfInBounds_toArray, List.set_cons_zero, List.set_cons_succ]
    refine wpAnyH_ready (rs := [7]) (by kernel_rfl) (by simp) ?_
    refine AllReadyH.cons (o := { dst := some 12, op := Go.Op.call { callee := Go.Callee.value (Go.Operand.func 103), args := #[Go.Operand.tmp 11], argTypes := #[81] }, type := 9, pos := "ref.go:119", after := #[{ on := 6, ground := Go.Ground.data }, { on := 5, ground := Go.Ground.chain }, { on := 5, ground := Go.Ground.guard }], guard := some (5, true) }) rfl (fun K hK => ?_) AllReadyH.nil
    go_simp
    (go_at_call 103; refine (NA.out _ (HG0.out.trans (h0).1)).mono ?_; rintro e w9 ⟨rfl, hgN⟩)
    first | refine hK.out _ _ ?sa9 (fun h9 => ?_) | (go_wp2_with fail; refine hK.out _ _ ?sa9 (fun h9 => ?_))
    case sa9 => ((try dsimp only); exact HX.out _ _ hgN h0)
    clear hK K h0
    try simp only [Act.put, List.setIfInBounds_toArray, List.set_cons_zero, List.set_cons_succ]
    refine wpAnyH_ready (rs := [9]) (by kernel_rfl) (by simp) ?_
    refine AllReadyH.cons (o := { dst := some 14, op := Go.Op.call { callee := Go.Callee.value (Go.Operand.func 103), args := #[Go.Operand.tmp 13], argTypes := #[81] }, type := 9, pos := "ref.go:119", after := #[{ on := 8, ground := Go.Ground.data }, { on := 7, ground := Go.Ground.chain }, { on := 5, ground := Go.Ground.guard }], guard := some (5, true) }) rfl (fun K hK => ?_) AllReadyH.nil
    go_simp
    (go_at_call 103; refine (NB.out _ (HG0.out.trans (h9).1)).mono ?_; rintro e w9 ⟨rfl, hgN⟩)
    first | refine hK.out _ _ ?sa10 (fun h10 => ?_) | (go_wp2_with fail; refine hK.out _ _ ?sa10 (fun h10 => ?_))
    case sa10 => ((try dsimp only); exact HX.out _ _ hgN h9)
    clear hK K h9
    try simp only [Act.put, List.setIfInBounds_toArray, List.set_cons_zero, List.set_cons_succ]
    refine wpAnyH_take (i := 10) (oi := { dst := some 15, op := Go.Op.binOp Go.BinOp.eql 9 (Go.Operand.tmp 12) (Go.Operand.tmp 14) 9, type := 4, pos := "ref.go:119", after := #[{ on := 7, ground := Go.Ground.data }, { on := 9, ground := Go.Ground.data }, { on := 5, ground := Go.Ground.guard }], guard := some (5, true) }) (v := (.bool R)) rfl (by kernel_rfl) (by kernel_rfl) (by kernel_rfl) (fun _ _ _ h => h) (Or.inl ⟨by rfl, ?ra11⟩) (by assumption) ?_
    case ra11 => (intro w hSw; (try dsimp only at hSw); go_simp; first | (rw [HD.out]; done) | simp [HD.out])
    try simp only [Act.put, List.setIfInBounds_toArray, List.set_cons_zero, List.set_cons_succ]
    refine wpAnyH_take (i := 11) (oi := { dst := some 16, op := Go.Op.pick (Go.Operand.tmp 10) (Go.Operand.tmp 15) (Go.Operand.const (Go.Value.bool false)), type := 4, pos := "ref.go:119", after := #[{ on := 5, ground := Go.Ground.data }, { on := 10, ground := Go.Ground.data }], guard := none }) (v := ?va12) rfl (by kernel_rfl) (by kernel_rfl) (by kernel_rfl) (fun _ _ _ h => h) (Or.inl ⟨by rfl, ?ra12⟩) (by assumption) ?_
    case ra12 => (intro w hSw; (try dsimp only at hSw); (go_simp <;> with_reducible rfl))
    try simp only [Act.put, List.setIfInBounds_toArray, List.set_cons_zero, List.set_cons_succ]
    refine wpAnyH_take (i := 12) (oi := { dst := some 4, op := Go.Op.assign (Go.Operand.tmp 16), type := 4, pos := "ref.go:119", after := #[{ on := 11, ground := Go.Ground.data }, { on := 9, ground := Go.Ground.chain }, { on := 0, ground := Go.Ground.phase }, { on := 1, ground := Go.Ground.phase }, { on := 2, ground := Go.Ground.phase }, { on := 3, ground := Go.Ground.phase }, { on := 4, ground := Go.Ground.phase }, { on := 5, ground := Go.Ground.phase }, { on := 6, ground := Go.Ground.phase }, { on := 7, ground := Go.Ground.phase }, { on := 8, ground := Go.Ground.phase }, { on := 9, ground := Go.Ground.phase }, { on := 10, ground := Go.Ground.phase }, { on := 11, ground := Go.Ground.phase }], guard := none }) (v := ?va13) rfl (by kernel_rfl) (by kernel_rfl) (by kernel_rfl) (fun _ _ _ h => h) (Or.inl ⟨by rfl, ?ra13⟩) (by assumption) ?_
    case ra13 => (intro w hSw; (try dsimp only at hSw); (go_simp <;> with_reducible rfl))
    try simp only [Act.put, List.setIfInBounds_toArray, List.set_cons_zero, List.set_cons_succ]
    refine wpAnyH_done (by kernel_rfl) ?_ _
    have G9 := Lib.hid (h10).1
    clear h10
    go_wp2
    go_ret
    exact ⟨rfl, HG0.out.trans G9.out⟩
end Go.Proofs.Ytihhfdkcggnjpaa
