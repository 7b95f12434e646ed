import Derived.Test.YtihhfdkcggnjpaaK7
import Derived.Test.YtihhfdkcggnjpaaF10s
import Derived.WalkKit
import Derived.ProofKit
import Derived.LoopTactic
import Derived.Outline
import Derived.WalkSpells
import Derived.WalkLawsBesides
import Derived.Lib.Hide
import Derived.Deep.LoopGhost
import Derived.Deep.QuietTactic
import Derived.BigQuiet
import Derived.ShutString
import Derived.IntWalk
import Derived.Deep.MidRow
import Derived.Deep.RegionHeld3
namespace Go.Proofs.Ytihhfdkcggnjpaa
open Go.ChangeShapes Go.WideShapes Go.ChangeAt Go.RowKit
open Enc Bal
set_option linter.unusedVariables false
set_option linter.unusedSimpArgs false
theorem parse_len (s : ByteArray) : (parseM s).2.L.length ≤ 64 := by
  have h0 : (Mg.zero).L.length = 0 := rfl
  unfold parseM
  split
  · simp only; omega
  · split
    · simp only; omega
    · split
      · simp only; omega
      · split
        · simp only; omega
        · have h1 : (headR (openB s).2.1).cnt ≤ 64 := by
            obtain ⟨r1, e1, frm, r2, e2, tt, r3, e3, sub, r4, e4, c, n, r5, e5, slot, r6, e6, time, r7, e7, ok, r8, e8, text, r9, e9, cnt, q1, q2, q3, q4, q5, q6, q7, q8, q9, hH, l1, l2, l3, l4, l5, l6, l7, l8, l9, hc⟩ := headR_ways (openB s).2.1
            rw [hH]; exact hc
          simp only [mgOf, inR, entsR_len]
          exact h1
set_option maxRecDepth 100000 in
set_option maxHeartbeats 8000000 in
theorem msgParses_walk (s : ByteArray) (w : World) (hs : s.size ≤ maxLen) :
    Calls Try.prog 8 #[.string s] w fun e w' => e = .returned (.bool true) ∧ Gr w w' := by
  have HCU := Lib.hid fun w => cut_any s 700 w (by unfold maxLen at hs; omega) (by decide)
  have hz := cutB_le s 700
  clear hs
  generalize cutB s 700 = t at *
  have HP1 := Lib.hid fun w9 => parse10_any t (by omega) w9
  have HP2 := Lib.hid fun w9 => refParse10_any t (by omega) w9
  have hln := parse_len t
  have hfm : (parseM t).1 = 0 → (parseM t).2.Sm ∧ (parseM t).2.check = 0 ∧ (parseM t).2.bytes = t := fun h => parse_form (by omega) (by rw [← h])
  generalize parseM t = P at *
  obtain ⟨en, k⟩ := P
  simp only at HP1 HP2 hln hfm
  have HOW := Lib.hid fun aa q w9 => own_mg (a := aa) (q := q) k (by omega) w9
  have HSM := Lib.hid fun o1 o2 p1 p2 w9 h1 h2 => same_mg (o1 := o1) (o2 := o2) (p1 := p1) (p2 := p2) k k (by omega) (by omega) w9 h1 h2
  rw [Mg.same_self] at HSM
  have HC0 := Lib.hid fun (h : en = 0) aa q w9 => (hfm h).2.1 ▸ check_mg (a := aa) (q := q) k (hfm h).1 w9
  have HB0 := Lib.hid fun (h : en = 0) aa q w9 => (hfm h).2.2 ▸ bytesX_mg (a := aa) (q := q) k (hfm h).1 w9
  clear hln hfm
  obtain ⟨k0, k1, k2, k3, k4, k5, k6, k7, k8, kt, kL⟩ := k
  simp only at HOW HP1 HP2 HSM HC0 HB0
  obtain ⟨nl, hnl⟩ : ∃ n, kL.length = n := ⟨_, rfl⟩
  simp only [hnl] at HOW HP1 HP2 HSM HC0 HB0
  clear hnl
  go_enter Try.func8, Try.ntmps8
  go_wp2_with fail
  refine (awake10 _).mono ?_
  rintro e wz0 ⟨rfl, hg1⟩
  have HG := Lib.hid hg1
  clear hg1
  go_wp2_with fail
  refine (HCU.out _).mono ?_
  rintro e wc ⟨rfl, rfl⟩
  clear HCU
  go_wp2_with fail
  refine (HP1.out _).mono ?_
  rintro e w1 ⟨xa, xq, rfl, hg, HRX⟩
  have hA := (Gr.refl w1).alloc (.cells #[.int .i64 k0, .int .i64 k1, .int .i64 k2, .int .i64 k3, .int .u64 k4, .int .i64 k5, .int .i64 k6, .int .i64 k7, .bool k8, .string kt, .slice xa nl xq] 69)
  replace HG := Lib.hid ((HG.out.trans hg).trans hA)
  replace HRX := Lib.hid (HRX.out.gr hA)
  have HBX := Lib.hid (Blk.new w1 #[.int .i64 k0, .int .i64 k1, .int .i64 k2, .int .i64 k3, .int .u64 k4, .int .i64 k5, .int .i64 k6, .int .i64 k7, .bool k8, .string kt, .slice xa nl xq] 69)
  clear hA hg HP1
  go_wp2_with fail
  generalize w1.alloc (.cells #[.int .i64 k0, .int .i64 k1, .int .i64 k2, .int .i64 k3, .int .u64 k4, .int .i64 k5, .int .i64 k6, .int .i64 k7, .bool k8, .string kt, .slice xa nl xq] 69) = w2 at *
  generalize w1.heap.size = x at *
  refine (HP2.out _).mono ?_
  rintro e w3 ⟨ma, mq, rfl, hg, HRM⟩
  have hA := (Gr.refl w3).alloc (.cells #[.int .i64 k0, .int .i64 k1, .int .i64 k2, .int .i64 k3, .int .u64 k4, .int .i64 k5, .int .i64 k6, .int .i64 k7, .bool k8, .string kt, .slice ma nl mq] 81)
  replace HG := Lib.hid ((HG.out.trans hg).trans hA)
  replace HRX := Lib.hid ((HRX.out.gr hg).gr hA)
  replace HBX := Lib.hid ((HBX.out.gr hg).gr hA)
  replace HRM := Lib.hid (HRM.out.gr hA)
  have HBY := Lib.hid (Blk.new w3 #[.int .i64 k0, .int .i64 k1, .int .i64 k2, .int .i64 k3, .int .u64 k4, .int .i64 k5, .int .i64 k6, .int .i64 k7, .bool k8, .string kt, .slice ma nl mq] 81)
  clear hA hg HP2
  go_upto_region 6 with fail
  generalize w3.alloc (.cells #[.int .i64 k0, .int .i64 k1, .int .i64 k2, .int .i64 k3, .int .u64 k4, .int .i64 k5, .int .i64 k6, .int .i64 k7, .bool k8, .string kt, .slice ma nl mq] 81) = wz at *
  generalize w3.heap.size = y at *
  have u0 := HBX.out.cell (i := 0) rfl
  have j0 := HBY.out.cell (i := 0) rfl
  have u1 := HBX.out.cell (i := 1) rfl
  have j1 := HBY.out.cell (i := 1) rfl
  have u2 := HBX.out.cell (i := 2) rfl
  have j2 := HBY.out.cell (i := 2) rfl
  have u3 := HBX.out.cell (i := 3) rfl
  have j3 := HBY.out.cell (i := 3) rfl
  have u4 := HBX.out.cell (i := 4) rfl
  have j4 := HBY.out.cell (i := 4) rfl
  have u5 := HBX.out.cell (i := 5) rfl
  have j5 := HBY.out.cell (i := 5) rfl
  have u6 := HBX.out.cell (i := 6) rfl
  have j6 := HBY.out.cell (i := 6) rfl
  have u7 := HBX.out.cell (i := 7) rfl
  have j7 := HBY.out.cell (i := 7) rfl
  have u8 := HBX.out.cell (i := 8) rfl
  have j8 := HBY.out.cell (i := 8) rfl
  have u9 := HBX.out.cell (i := 9) rfl
  have j9 := HBY.out.cell (i := 9) rfl
  have u10 := HBX.out.cell (i := 10) rfl
  have j10 := HBY.out.cell (i := 10) rfl
  have HX : Hid (∀ w0 w9 : World, Gr w0 w9 → (fun w9 => Gr wz w9 ∧ w9.cell? ⟨x, 0, none⟩ = some (.int .i64 k0) ∧ w9.cell? ⟨x, 1, none⟩ = some (.int .i64 k1) ∧ w9.cell? ⟨x, 2, none⟩ = some (.int .i64 k2) ∧ w9.cell? ⟨x, 3, none⟩ = some (.int .i64 k3) ∧ w9.cell? ⟨x, 4, none⟩ = some (.int .u64 k4) ∧ w9.cell? ⟨x, 5, none⟩ = some (.int .i64 k5) ∧ w9.cell? ⟨x, 6, none⟩ = some (.int .i64 k6) ∧ w9.cell? ⟨x, 7, none⟩ = some (.int .i64 k7) ∧ w9.cell? ⟨x, 8, none⟩ = some (.bool k8) ∧ w9.cell? ⟨x, 9, none⟩ = some (.string kt) ∧ w9.cell? ⟨x, 10, none⟩ = some (.slice xa nl xq) ∧ w9.cell? ⟨y, 0, none⟩ = some (.int .i64 k0) ∧ w9.cell? ⟨y, 1, none⟩ = some (.int .i64 k1) ∧ w9.cell? ⟨y, 2, none⟩ = some (.int .i64 k2) ∧ w9.cell? ⟨y, 3, none⟩ = some (.int .i64 k3) ∧ w9.cell? ⟨y, 4, none⟩ = some (.int .u64 k4) ∧ w9.cell? ⟨y, 5, none⟩ = some (.int .i64 k5) ∧ w9.cell? ⟨y, 6, none⟩ = some (.int .i64 k6) ∧ w9.cell? ⟨y, 7, none⟩ = some (.int .i64 k7) ∧ w9.cell? ⟨y, 8, none⟩ = some (.bool k8) ∧ w9.cell? ⟨y, 9, none⟩ = some (.string kt) ∧ w9.cell? ⟨y, 10, none⟩ = some (.slice ma nl mq)) w0 → (fun w9 => Gr wz w9 ∧ w9.cell? ⟨x, 0, none⟩ = some (.int .i64 k0) ∧ w9.cell? ⟨x, 1, none⟩ = some (.int .i64 k1) ∧ w9.cell? ⟨x, 2, none⟩ = some (.int .i64 k2) ∧ w9.cell? ⟨x, 3, none⟩ = some (.int .i64 k3) ∧ w9.cell? ⟨x, 4, none⟩ = some (.int .u64 k4) ∧ w9.cell? ⟨x, 5, none⟩ = some (.int .i64 k5) ∧ w9.cell? ⟨x, 6, none⟩ = some (.int .i64 k6) ∧ w9.cell? ⟨x, 7, none⟩ = some (.int .i64 k7) ∧ w9.cell? ⟨x, 8, none⟩ = some (.bool k8) ∧ w9.cell? ⟨x, 9, none⟩ = some (.string kt) ∧ w9.cell? ⟨x, 10, none⟩ = some (.slice xa nl xq) ∧ w9.cell? ⟨y, 0, none⟩ = some (.int .i64 k0) ∧ w9.cell? ⟨y, 1, none⟩ = some (.int .i64 k1) ∧ w9.cell? ⟨y, 2, none⟩ = some (.int .i64 k2) ∧ w9.cell? ⟨y, 3, none⟩ = some (.int .i64 k3) ∧ w9.cell? ⟨y, 4, none⟩ = some (.int .u64 k4) ∧ w9.cell? ⟨y, 5, none⟩ = some (.int .i64 k5) ∧ w9.cell? ⟨y, 6, none⟩ = some (.int .i64 k6) ∧ w9.cell? ⟨y, 7, none⟩ = some (.int .i64 k7) ∧ w9.cell? ⟨y, 8, none⟩ = some (.bool k8) ∧ w9.cell? ⟨y, 9, none⟩ = some (.string kt) ∧ w9.cell? ⟨y, 10, none⟩ = some (.slice ma nl mq)) w9) := Lib.hid fun w0 w9 hg ⟨h, q0, q1, q2, q3, q4, q5, q6, q7, q8, q9, q10, q11, q12, q13, q14, q15, q16, q17, q18, q19, q20, q21⟩ => ⟨h.trans hg, hg.cell q0, hg.cell q1, hg.cell q2, hg.cell q3, hg.cell q4, hg.cell q5, hg.cell q6, hg.cell q7, hg.cell q8, hg.cell q9, hg.cell q10, hg.cell q11, hg.cell q12, hg.cell q13, hg.cell q14, hg.cell q15, hg.cell q16, hg.cell q17, hg.cell q18, hg.cell q19, hg.cell q20, hg.cell q21⟩
  have HS0 := And.intro (Gr.refl wz) (And.intro (u0) (And.intro (u1) (And.intro (u2) (And.intro (u3) (And.intro (u4) (And.intro (u5) (And.intro (u6) (And.intro (u7) (And.intro (u8) (And.intro (u9) (And.intro (u10) (And.intro (j0) (And.intro (j1) (And.intro (j2) (And.intro (j3) (And.intro (j4) (And.intro (j5) (And.intro (j6) (And.intro (j7) (And.intro (j8) (And.intro (j9) (j10))))))))))))))))))))))
  clear u0 u1 u2 u3 u4 u5 u6 u7 u8 u9 u10 j0 j1 j2 j3 j4 j5 j6 j7 j8 j9 j10 HBX HBY
  refine wp_region_held_drew (S := (fun w9 => Gr wz w9 ∧ w9.cell? ⟨x, 0, none⟩ = some (.int .i64 k0) ∧ w9.cell? ⟨x, 1, none⟩ = some (.int .i64 k1) ∧ w9.cell? ⟨x, 2, none⟩ = some (.int .i64 k2) ∧ w9.cell? ⟨x, 3, none⟩ = some (.int .i64 k3) ∧ w9.cell? ⟨x, 4, none⟩ = some (.int .u64 k4) ∧ w9.cell? ⟨x, 5, none⟩ = some (.int .i64 k5) ∧ w9.cell? ⟨x, 6, none⟩ = some (.int .i64 k6) ∧ w9.cell? ⟨x, 7, none⟩ = some (.int .i64 k7) ∧ w9.cell? ⟨x, 8, none⟩ = some (.bool k8) ∧ w9.cell? ⟨x, 9, none⟩ = some (.string kt) ∧ w9.cell? ⟨x, 10, none⟩ = some (.slice xa nl xq) ∧ w9.cell? ⟨y, 0, none⟩ = some (.int .i64 k0) ∧ w9.cell? ⟨y, 1, none⟩ = some (.int .i64 k1) ∧ w9.cell? ⟨y, 2, none⟩ = some (.int .i64 k2) ∧ w9.cell? ⟨y, 3, none⟩ = some (.int .i64 k3) ∧ w9.cell? ⟨y, 4, none⟩ = some (.int .u64 k4) ∧ w9.cell? ⟨y, 5, none⟩ = some (.int .i64 k5) ∧ w9.cell? ⟨y, 6, none⟩ = some (.int .i64 k6) ∧ w9.cell? ⟨y, 7, none⟩ = some (.int .i64 k7) ∧ w9.cell? ⟨y, 8, none⟩ = some (.bool k8) ∧ w9.cell? ⟨y, 9, none⟩ = some (.string kt) ∧ w9.cell? ⟨y, 10, none⟩ = some (.slice ma nl mq))) (by kernel_rfl) ?inva (fun h0 => ?_)
  case inva => ((try dsimp only); (exact HX.out _ _ (Gr.refl _).drew HS0))
  refine wpAnyH_take (i := 0) (oi := { dst := some 21, op := Go.Op.move (Go.Operand.tmp 4), type := 60, pos := "law.go:98", after := #[], guard := none }) (v := ?va1) rfl (by kernel_rfl) (by kernel_rfl) (by kernel_rfl) (fun _ _ _ h => h) (Or.inl ⟨by rfl, ?ra1⟩) (by assumption) ?_
  case ra1 => (intro w hSw; (try dsimp only at hSw); (go_simp <;> with_reducible rfl))
  try simp only [Act.put, List.setIfInBounds_toArray, List.set_cons_zero, List.set_cons_succ]
  refine wpAnyH_take (i := 1) (oi := { dst := some 22, op := Go.Op.move (Go.Operand.tmp 6), type := 3, pos := "law.go:98", after := #[], guard := none }) (v := ?va2) rfl (by kernel_rfl) (by kernel_rfl) (by kernel_rfl) (fun _ _ _ h => h) (Or.inl ⟨by rfl, ?ra2⟩) (by assumption) ?_
  case ra2 => (intro w hSw; (try dsimp only at hSw); (go_simp <;> with_reducible rfl))
  try simp only [Act.put, List.setIfInBounds_toArray, List.set_cons_zero, List.set_cons_succ]
  refine wpAnyH_take (i := 2) (oi := { dst := some 23, op := Go.Op.binOp Go.BinOp.neq 3 (Go.Operand.tmp 21) (Go.Operand.tmp 22) 3, type := 4, pos := "law.go:98", after := #[{ on := 0, ground := Go.Ground.data }, { on := 1, ground := Go.Ground.data }], guard := none }) (v := (.bool false)) rfl (by kernel_rfl) (by kernel_rfl) (by kernel_rfl) (fun _ _ _ h => h) (Or.inl ⟨by rfl, ?ra3⟩) (by assumption) ?_
  case ra3 => (intro w hSw; (try dsimp only at hSw); go_simp; first | done | rfl | simp)
  try simp only [Act.put, List.setIfInBounds_toArray, List.set_cons_zero, List.set_cons_succ]
  refine wpAnyH_take (i := 3) (oi := { dst := some 24, op := Go.Op.move (Go.Operand.tmp 23), type := 4, pos := "law.go:98", after := #[{ on := 2, ground := Go.Ground.data }], guard := none }) (v := ?va4) rfl (by kernel_rfl) (by kernel_rfl) (by kernel_rfl) (fun _ _ _ h => h) (Or.inl ⟨by rfl, ?ra4⟩) (by assumption) ?_
  case ra4 => (intro w hSw; (try dsimp only at hSw); (go_simp <;> with_reducible rfl))
  try simp only [Act.put, List.setIfInBounds_toArray, List.set_cons_zero, List.set_cons_succ]
  refine wpAnyH_take (i := 4) (oi := { dst := some 25, op := Go.Op.load 69 (Go.Operand.tmp 3), type := 69, pos := "law.go:98", after := #[{ on := 3, ground := Go.Ground.guard }], guard := some (3, false) }) (v := ?va5) rfl (by kernel_rfl) (by kernel_rfl) (by kernel_rfl) (fun _ _ _ h => h) (Or.inl ⟨by rfl, ?ra5⟩) (by assumption) ?_
  case ra5 => (intro w hSw; (try dsimp only at hSw); (go_simp <;> with_reducible rfl))
  try simp only [Act.put, List.setIfInBounds_toArray, List.set_cons_zero, List.set_cons_succ]
  refine wpAnyH_take (i := 5) (oi := { dst := some 26, op := Go.Op.load 81 (Go.Operand.tmp 5), type := 81, pos := "law.go:98", after := #[{ on := 3, ground := Go.Ground.guard }], guard := some (3, false) }) (v := ?va6) rfl (by kernel_rfl) (by kernel_rfl) (by kernel_rfl) (fun _ _ _ h => h) (Or.inl ⟨by rfl, ?ra6⟩) (by assumption) ?_
  case ra6 => (intro w hSw; (try dsimp only at hSw); (go_simp <;> with_reducible rfl))
  try simp only [Act.put, List.setIfInBounds_toArray, List.set_cons_zero, List.set_cons_succ]
  refine wpAnyH_ready (rs := [6]) (by kernel_rfl) (by simp) ?_
  refine AllReadyH.cons (o := { dst := some 27, op := Go.Op.call { callee := Go.Callee.value (Go.Operand.func 39), args := #[Go.Operand.tmp 26], argTypes := #[81] }, type := 69, pos := "law.go:98", after := #[{ on := 5, ground := Go.Ground.data }, { on := 3, ground := Go.Ground.chain }, { on := 3, ground := Go.Ground.guard }], guard := some (3, false) }) rfl (fun K hK => ?_) AllReadyH.nil
  go_simp
  go_at_call 39
  refine (HOW.out _ _ _ (HRM.out.gr (h0).1)).mono ?_
  rintro e w9 ⟨oa, ua, rfl, HRO, hgN⟩
  first | refine hK.out _ _ ?sa7 (fun h7 => ?_) | (go_wp2_with fail; refine hK.out _ _ ?sa7 (fun h7 => ?_))
  case sa7 => ((try dsimp only); exact HX.out _ _ hgN h0)
  clear hK K h0
  try simp only [Act.put, List.setIfInBounds_toArray, List.set_cons_zero, List.set_cons_succ]
  refine wpAnyH_ready (rs := [7]) (by kernel_rfl) (by simp) ?_
  refine AllReadyH.cons (o := { dst := some 28, op := Go.Op.call { callee := Go.Callee.value (Go.Operand.func 38), args := #[Go.Operand.tmp 25, Go.Operand.tmp 27], argTypes := #[69, 69] }, type := 4, pos := "law.go:98", after := #[{ on := 4, ground := Go.Ground.data }, { on := 6, ground := Go.Ground.data }, { on := 6, ground := Go.Ground.chain }, { on := 3, ground := Go.Ground.guard }], guard := some (3, false) }) rfl (fun K hK => ?_) AllReadyH.nil
  go_simp
  go_at_call 38
  refine (HSM.out _ _ _ _ _ (HRX.out.gr (h7).1) HRO.out).mono ?_
  rintro e w9 ⟨rfl, hgN⟩
  first | refine hK.out _ _ ?sa8 (fun h8 => ?_) | (go_wp2_with fail; refine hK.out _ _ ?sa8 (fun h8 => ?_))
  case sa8 => ((try dsimp only); exact HX.out _ _ hgN h7)
  clear hK K h7
  try simp only [Act.put, List.setIfInBounds_toArray, List.set_cons_zero, List.set_cons_succ]
  refine wpAnyH_take (i := 8) (oi := { dst := some 29, op := Go.Op.unOp Go.UnOp.not 4 (Go.Operand.tmp 28), type := 4, pos := "law.go:98", after := #[{ on := 7, ground := Go.Ground.data }, { on := 3, ground := Go.Ground.guard }], guard := some (3, false) }) (v := ?va9) rfl (by kernel_rfl) (by kernel_rfl) (by kernel_rfl) (fun _ _ _ h => h) (Or.inl ⟨by rfl, ?ra9⟩) (by assumption) ?_
  case ra9 => (intro w hSw; (try dsimp only at hSw); (go_simp <;> with_reducible rfl))
  try simp only [Act.put, List.setIfInBounds_toArray, List.set_cons_zero, List.set_cons_succ]
  refine wpAnyH_take (i := 9) (oi := { dst := some 30, op := Go.Op.pick (Go.Operand.tmp 24) (Go.Operand.const (Go.Value.bool true)) (Go.Operand.tmp 29), type := 4, pos := "law.go:98", after := #[{ on := 3, ground := Go.Ground.data }, { on := 8, ground := Go.Ground.data }], guard := none }) (v := ?va10) rfl (by kernel_rfl) (by kernel_rfl) (by kernel_rfl) (fun _ _ _ h => h) (Or.inl ⟨by rfl, ?ra10⟩) (by assumption) ?_
  case ra10 => (intro w hSw; (try dsimp only at hSw); (go_simp <;> with_reducible rfl))
  try simp only [Act.put, List.setIfInBounds_toArray, List.set_cons_zero, List.set_cons_succ]
  refine wpAnyH_done (by kernel_rfl) ?_ _
  have SZ := Lib.hid (h8)
  clear h8
  have G9 := Lib.hid SZ.out.1
  replace HG := Lib.hid (HG.out.trans G9.out)
  replace HRX := Lib.hid (HRX.out.gr G9.out)
  have HXC := Lib.hid SZ.out.2
  clear SZ G9
  by_cases h0 : en = 0
  · subst h0
    have HC := Lib.hid (HC0.out rfl)
    have HBY := Lib.hid (HB0.out rfl)
    clear HC0 HB0
    obtain ⟨j0, j1, j2, j3, j4, j5, j6, j7, j8, j9, j10, j11, j12, j13, j14, j15, j16, j17, j18, j19, j20, j21⟩ := HXC.out
    go_wp2_with fail
    refine (HC.out _ _ _ HRX.out).mono ?_
    rintro e wr ⟨rfl, hg⟩
    replace HG := Lib.hid (HG.out.trans hg)
    replace HRX := Lib.hid (HRX.out.gr hg)
    have HXC2 := Lib.hid (show wr.cell? ⟨x, 0, none⟩ = some (.int .i64 k0) ∧ wr.cell? ⟨x, 1, none⟩ = some (.int .i64 k1) ∧ wr.cell? ⟨x, 2, none⟩ = some (.int .i64 k2) ∧ wr.cell? ⟨x, 3, none⟩ = some (.int .i64 k3) ∧ wr.cell? ⟨x, 4, none⟩ = some (.int .u64 k4) ∧ wr.cell? ⟨x, 5, none⟩ = some (.int .i64 k5) ∧ wr.cell? ⟨x, 6, none⟩ = some (.int .i64 k6) ∧ wr.cell? ⟨x, 7, none⟩ = some (.int .i64 k7) ∧ wr.cell? ⟨x, 8, none⟩ = some (.bool k8) ∧ wr.cell? ⟨x, 9, none⟩ = some (.string kt) ∧ wr.cell? ⟨x, 10, none⟩ = some (.slice xa nl xq) from ⟨hg.cell j0, hg.cell j1, hg.cell j2, hg.cell j3, hg.cell j4, hg.cell j5, hg.cell j6, hg.cell j7, hg.cell j8, hg.cell j9, hg.cell j10⟩)
    clear hg HC j0 j1 j2 j3 j4 j5 j6 j7 j8 j9 j10 j11 j12 j13 j14 j15 j16 j17 j18 j19 j20 j21 HXC
    obtain ⟨j0, j1, j2, j3, j4, j5, j6, j7, j8, j9, j10⟩ := HXC2.out
    go_wp2_with fail
    refine (HBY.out _ _ _ HRX.out).mono ?_
    rintro e ws ⟨rfl, hg⟩
    replace HG := Lib.hid (HG.out.trans hg)
    clear hg
    go_wp2
    go_ret
    exact ⟨by first | rfl | simp, HG.out⟩
  · have h0' : ((en : Int) != 0) = true := by simp; omega
    clear HC0 HB0
    go_wp2
    go_ret
    exact ⟨rfl, HG.out⟩
end Go.Proofs.Ytihhfdkcggnjpaa
