import Derived.Test.YtihhfdkcggnjpaaF10n
import Derived.Test.YtihhfdkcggnjpaaC17
import Derived.WalkKit
import Derived.ProofKit
import Derived.LoopTactic
import Derived.Outline
import Derived.WalkSpells
import Derived.WalkLawsBesides
import Derived.Lib.Hide
import Derived.Deep.LoopGhost
import Derived.Deep.QuietTactic
import Derived.BigQuiet
import Derived.ShutString
import Derived.IntWalk
import Derived.Deep.RegionHeld3
namespace Go.Proofs.Ytihhfdkcggnjpaa
open Go.ChangeShapes Go.WideShapes Go.ChangeAt Go.RowKit
open Enc Bal
set_option linter.unusedVariables false
set_option linter.unusedSimpArgs false
set_option maxRecDepth 100000 in
set_option maxHeartbeats 8000000 in
theorem msgSame_walk (a0 a1 a2 a3 a4 a5 a6 a7 : Int) (a8 : Bool) (at_ : ByteArray) (aL : List E) (va : Option Addr) (ca0 : Nat) (b0 b1 b2 b3 b4 b5 b6 b7 : Int) (b8 : Bool) (bt : ByteArray) (bL : List E) (vb : Option Addr) (cb0 : Nat) (w : World) (ha : (⟨a0, a1, a2, a3, a4, a5, a6, a7, a8, at_, aL⟩ : Mg).Wf ∧ ERow w va aL ∧ aL.length ≤ ca0) (hb : (⟨b0, b1, b2, b3, b4, b5, b6, b7, b8, bt, bL⟩ : Mg).Wf ∧ ERow w vb bL ∧ bL.length ≤ cb0) :
    Calls Try.prog 5 #[.agg #[.int .i64 a0, .int .i64 a1, .int .i64 a2, .int .i64 a3, .int .u64 a4, .int .i64 a5, .int .i64 a6, .int .i64 a7, .bool a8, .string at_, .slice va aL.length ca0], .agg #[.int .i64 b0, .int .i64 b1, .int .i64 b2, .int .i64 b3, .int .u64 b4, .int .i64 b5, .int .i64 b6, .int .i64 b7, .bool b8, .string bt, .slice vb bL.length cb0]] w fun e w' => e = .returned (.bool true) ∧ Gr w w' := by
  obtain ⟨ha1, ha2, ha3⟩ := ha
  obtain ⟨hb1, hb2, hb3⟩ := hb
  have sa := Mg.few_sm ha1
  have sb := Mg.few_sm hb1
  have la1 : (⟨a0, a1, a2, a3, a4, a5, a6, a7, a8, at_, aL⟩ : Mg).few.L.length ≤ 1000 := by have := sa.len; omega
  have lb1 : (⟨b0, b1, b2, b3, b4, b5, b6, b7, b8, bt, bL⟩ : Mg).few.L.length ≤ 1000 := by have := sb.len; omega
  have HFA := Lib.hid fun w9 (hg : Gr w w9) => few_mg (⟨a0, a1, a2, a3, a4, a5, a6, a7, a8, at_, aL⟩ : Mg) w9 ha1 (ha2.gr hg) ha3
  have HFB := Lib.hid fun w9 (hg : Gr w w9) => few_mg (⟨b0, b1, b2, b3, b4, b5, b6, b7, b8, bt, bL⟩ : Mg) w9 hb1 (hb2.gr hg) hb3
  have HOWA := Lib.hid fun a q w9 => own_mg (a := a) (q := q) (⟨a0, a1, a2, a3, a4, a5, a6, a7, a8, at_, aL⟩ : Mg).few la1 w9
  have HOWB := Lib.hid fun a q w9 => own_mg (a := a) (q := q) (⟨b0, b1, b2, b3, b4, b5, b6, b7, b8, bt, bL⟩ : Mg).few lb1 w9
  have HCA := Lib.hid fun a q w9 => refCheck_mg (a := a) (q := q) (⟨a0, a1, a2, a3, a4, a5, a6, a7, a8, at_, aL⟩ : Mg).few sa w9
  have HCB := Lib.hid fun a q w9 => refCheck_mg (a := a) (q := q) (⟨b0, b1, b2, b3, b4, b5, b6, b7, b8, bt, bL⟩ : Mg).few sb w9
  have HAA := Lib.hid fun o1 p1 o2 p2 w9 => same_mg (o1 := o1) (p1 := p1) (o2 := o2) (p2 := p2) (⟨a0, a1, a2, a3, a4, a5, a6, a7, a8, at_, aL⟩ : Mg).few (⟨a0, a1, a2, a3, a4, a5, a6, a7, a8, at_, aL⟩ : Mg).few la1 la1 w9
  have HAB := Lib.hid fun o1 p1 o2 p2 w9 => same_mg (o1 := o1) (p1 := p1) (o2 := o2) (p2 := p2) (⟨a0, a1, a2, a3, a4, a5, a6, a7, a8, at_, aL⟩ : Mg).few (⟨b0, b1, b2, b3, b4, b5, b6, b7, b8, bt, bL⟩ : Mg).few la1 lb1 w9
  have HBA2 := Lib.hid fun o1 p1 o2 p2 w9 => same_mg (o1 := o1) (p1 := p1) (o2 := o2) (p2 := p2) (⟨b0, b1, b2, b3, b4, b5, b6, b7, b8, bt, bL⟩ : Mg).few (⟨a0, a1, a2, a3, a4, a5, a6, a7, a8, at_, aL⟩ : Mg).few lb1 la1 w9
  have HRS0 := Lib.hid fun h0 h1 aa qq aa2 qq2 w9 => refSame_mg (a := aa) (q := qq) (a2 := aa2) (q2 := qq2) (⟨a0, a1, a2, a3, a4, a5, a6, a7, a8, at_, aL⟩ : Mg).few (⟨b0, b1, b2, b3, b4, b5, b6, b7, b8, bt, bL⟩ : Mg).few sa sb h0 h1 w9
  rw [Mg.same_symm (⟨b0, b1, b2, b3, b4, b5, b6, b7, b8, bt, bL⟩ : Mg).few (⟨a0, a1, a2, a3, a4, a5, a6, a7, a8, at_, aL⟩ : Mg).few] at HBA2
  rw [Mg.same_self] at HAA
  generalize (⟨a0, a1, a2, a3, a4, a5, a6, a7, a8, at_, aL⟩ : Mg).few.same (⟨b0, b1, b2, b3, b4, b5, b6, b7, b8, bt, bL⟩ : Mg).few = sab at *
  generalize (⟨a0, a1, a2, a3, a4, a5, a6, a7, a8, at_, aL⟩ : Mg).few.check = ca at *
  generalize (⟨b0, b1, b2, b3, b4, b5, b6, b7, b8, bt, bL⟩ : Mg).few.check = cb at *
  clear sa sb la1 lb1 ha1 ha2 ha3 hb1 hb2 hb3
  simp only [Mg.few] at HFA HFB HOWA HOWB HCA HCB HAA HAB HBA2 HRS0
  generalize cutB at_ 300 = a9 at *
  generalize cutB bt 300 = b9 at *
  generalize fewE aL = aF at *
  generalize fewE bL = bF at *
  obtain ⟨na, hna⟩ : ∃ n, aF.length = n := ⟨_, rfl⟩
  obtain ⟨nb, hnb⟩ : ∃ n, bF.length = n := ⟨_, rfl⟩
  simp only [hna, hnb] at HFA HFB HOWA HOWB HCA HCB HAA HAB HBA2 HRS0
  clear hna hnb
  go_enter Try.func5, Try.ntmps5
  have HG0 := Lib.hid (((Gr.refl w).alloc (.cells #[.int .i64 a0, .int .i64 a1, .int .i64 a2, .int .i64 a3, .int .u64 a4, .int .i64 a5, .int .i64 a6, .int .i64 a7, .bool a8, .string at_, .slice va aL.length ca0] 81)).alloc (.cells #[.int .i64 b0, .int .i64 b1, .int .i64 b2, .int .i64 b3, .int .u64 b4, .int .i64 b5, .int .i64 b6, .int .i64 b7, .bool b8, .string bt, .slice vb bL.length cb0] 81))
  have HBA := Lib.hid ((Blk.new w #[.int .i64 a0, .int .i64 a1, .int .i64 a2, .int .i64 a3, .int .u64 a4, .int .i64 a5, .int .i64 a6, .int .i64 a7, .bool a8, .string at_, .slice va aL.length ca0] 81).gr ((Gr.refl _).alloc (.cells #[.int .i64 b0, .int .i64 b1, .int .i64 b2, .int .i64 b3, .int .u64 b4, .int .i64 b5, .int .i64 b6, .int .i64 b7, .bool b8, .string bt, .slice vb bL.length cb0] 81)))
  have HBB := Lib.hid (Blk.new (w.alloc (.cells #[.int .i64 a0, .int .i64 a1, .int .i64 a2, .int .i64 a3, .int .u64 a4, .int .i64 a5, .int .i64 a6, .int .i64 a7, .bool a8, .string at_, .slice va aL.length ca0] 81)) #[.int .i64 b0, .int .i64 b1, .int .i64 b2, .int .i64 b3, .int .u64 b4, .int .i64 b5, .int .i64 b6, .int .i64 b7, .bool b8, .string bt, .slice vb bL.length cb0] 81)
  rw [show (w.alloc (.cells #[.int .i64 a0, .int .i64 a1, .int .i64 a2, .int .i64 a3, .int .u64 a4, .int .i64 a5, .int .i64 a6, .int .i64 a7, .bool a8, .string at_, .slice va aL.length ca0] 81)).heap.size = w.heap.size + 1 by simp] at HBB
  go_wp2_with fail
  refine (awake10 _).mono ?_
  rintro e wz ⟨rfl, hg1⟩
  have HGZ := Lib.hid (HG0.out.trans hg1)
  replace HBA := Lib.hid (HBA.out.gr hg1)
  replace HBB := Lib.hid (HBB.out.gr hg1)
  clear hg1 HG0
  have hpr : w.heap.size + 1 ≠ w.heap.size := by omega
  have k0 := HBA.out.cell (i := 0) rfl
  have j0 := HBB.out.cell (i := 0) rfl
  have k1 := HBA.out.cell (i := 1) rfl
  have j1 := HBB.out.cell (i := 1) rfl
  have k2 := HBA.out.cell (i := 2) rfl
  have j2 := HBB.out.cell (i := 2) rfl
  have k3 := HBA.out.cell (i := 3) rfl
  have j3 := HBB.out.cell (i := 3) rfl
  have k4 := HBA.out.cell (i := 4) rfl
  have j4 := HBB.out.cell (i := 4) rfl
  have k5 := HBA.out.cell (i := 5) rfl
  have j5 := HBB.out.cell (i := 5) rfl
  have k6 := HBA.out.cell (i := 6) rfl
  have j6 := HBB.out.cell (i := 6) rfl
  have k7 := HBA.out.cell (i := 7) rfl
  have j7 := HBB.out.cell (i := 7) rfl
  have k8 := HBA.out.cell (i := 8) rfl
  have j8 := HBB.out.cell (i := 8) rfl
  have k9 := HBA.out.cell (i := 9) rfl
  have j9 := HBB.out.cell (i := 9) rfl
  have k10 := HBA.out.cell (i := 10) rfl
  have j10 := HBB.out.cell (i := 10) rfl
  go_wp2
  generalize hrr : w.heap.size + 1 = r at *
  generalize hpp : w.heap.size = p at *
  have HWP := Lib.hid (show w.heap.size ≤ p from Nat.le_of_eq hpp)
  have HWR := Lib.hid (show w.heap.size ≤ r from by omega)
  clear hrr hpp
  have HX : Hid (∀ w0 w9 : World, Gr w0 w9 → (fun w9 => Gr wz w9 ∧ w9.cell? ⟨p, 0, none⟩ = some (.int .i64 a0) ∧ w9.cell? ⟨p, 1, none⟩ = some (.int .i64 a1) ∧ w9.cell? ⟨p, 2, none⟩ = some (.int .i64 a2) ∧ w9.cell? ⟨p, 3, none⟩ = some (.int .i64 a3) ∧ w9.cell? ⟨p, 4, none⟩ = some (.int .u64 a4) ∧ w9.cell? ⟨p, 5, none⟩ = some (.int .i64 a5) ∧ w9.cell? ⟨p, 6, none⟩ = some (.int .i64 a6) ∧ w9.cell? ⟨p, 7, none⟩ = some (.int .i64 a7) ∧ w9.cell? ⟨p, 8, none⟩ = some (.bool a8) ∧ w9.cell? ⟨p, 9, none⟩ = some (.string at_) ∧ w9.cell? ⟨p, 10, none⟩ = some (.slice va aL.length ca0) ∧ w9.cell? ⟨r, 0, none⟩ = some (.int .i64 b0) ∧ w9.cell? ⟨r, 1, none⟩ = some (.int .i64 b1) ∧ w9.cell? ⟨r, 2, none⟩ = some (.int .i64 b2) ∧ w9.cell? ⟨r, 3, none⟩ = some (.int .i64 b3) ∧ w9.cell? ⟨r, 4, none⟩ = some (.int .u64 b4) ∧ w9.cell? ⟨r, 5, none⟩ = some (.int .i64 b5) ∧ w9.cell? ⟨r, 6, none⟩ = some (.int .i64 b6) ∧ w9.cell? ⟨r, 7, none⟩ = some (.int .i64 b7) ∧ w9.cell? ⟨r, 8, none⟩ = some (.bool b8) ∧ w9.cell? ⟨r, 9, none⟩ = some (.string bt) ∧ w9.cell? ⟨r, 10, none⟩ = some (.slice vb bL.length cb0)) w0 → (fun w9 => Gr wz w9 ∧ w9.cell? ⟨p, 0, none⟩ = some (.int .i64 a0) ∧ w9.cell? ⟨p, 1, none⟩ = some (.int .i64 a1) ∧ w9.cell? ⟨p, 2, none⟩ = some (.int .i64 a2) ∧ w9.cell? ⟨p, 3, none⟩ = some (.int .i64 a3) ∧ w9.cell? ⟨p, 4, none⟩ = some (.int .u64 a4) ∧ w9.cell? ⟨p, 5, none⟩ = some (.int .i64 a5) ∧ w9.cell? ⟨p, 6, none⟩ = some (.int .i64 a6) ∧ w9.cell? ⟨p, 7, none⟩ = some (.int .i64 a7) ∧ w9.cell? ⟨p, 8, none⟩ = some (.bool a8) ∧ w9.cell? ⟨p, 9, none⟩ = some (.string at_) ∧ w9.cell? ⟨p, 10, none⟩ = some (.slice va aL.length ca0) ∧ w9.cell? ⟨r, 0, none⟩ = some (.int .i64 b0) ∧ w9.cell? ⟨r, 1, none⟩ = some (.int .i64 b1) ∧ w9.cell? ⟨r, 2, none⟩ = some (.int .i64 b2) ∧ w9.cell? ⟨r, 3, none⟩ = some (.int .i64 b3) ∧ w9.cell? ⟨r, 4, none⟩ = some (.int .u64 b4) ∧ w9.cell? ⟨r, 5, none⟩ = some (.int .i64 b5) ∧ w9.cell? ⟨r, 6, none⟩ = some (.int .i64 b6) ∧ w9.cell? ⟨r, 7, none⟩ = some (.int .i64 b7) ∧ w9.cell? ⟨r, 8, none⟩ = some (.bool b8) ∧ w9.cell? ⟨r, 9, none⟩ = some (.string bt) ∧ w9.cell? ⟨r, 10, none⟩ = some (.slice vb bL.length cb0)) w9) := Lib.hid fun w0 w9 hg ⟨h, q0, q1, q2, q3, q4, q5, q6, q7, q8, q9, q10, q11, q12, q13, q14, q15, q16, q17, q18, q19, q20, q21⟩ => ⟨h.trans hg, hg.cell q0, hg.cell q1, hg.cell q2, hg.cell q3, hg.cell q4, hg.cell q5, hg.cell q6, hg.cell q7, hg.cell q8, hg.cell q9, hg.cell q10, hg.cell q11, hg.cell q12, hg.cell q13, hg.cell q14, hg.cell q15, hg.cell q16, hg.cell q17, hg.cell q18, hg.cell q19, hg.cell q20, hg.cell q21⟩
  have HS0 := And.intro (Gr.refl wz) (And.intro (k0) (And.intro (k1) (And.intro (k2) (And.intro (k3) (And.intro (k4) (And.intro (k5) (And.intro (k6) (And.intro (k7) (And.intro (k8) (And.intro (k9) (And.intro (k10) (And.intro (j0) (And.intro (j1) (And.intro (j2) (And.intro (j3) (And.intro (j4) (And.intro (j5) (And.intro (j6) (And.intro (j7) (And.intro (j8) (And.intro (j9) (j10))))))))))))))))))))))
  clear k0 j0 k1 j1 k2 j2 k3 j3 k4 j4 k5 j5 k6 j6 k7 j7 k8 j8 k9 j9 k10 j10
  refine late_start (fun i => decide (4 ≤ i)) (fun w9 => Gr wz w9 ∧ w9.cell? ⟨p, 0, none⟩ = some (.int .i64 a0) ∧ w9.cell? ⟨p, 1, none⟩ = some (.int .i64 a1) ∧ w9.cell? ⟨p, 2, none⟩ = some (.int .i64 a2) ∧ w9.cell? ⟨p, 3, none⟩ = some (.int .i64 a3) ∧ w9.cell? ⟨p, 4, none⟩ = some (.int .u64 a4) ∧ w9.cell? ⟨p, 5, none⟩ = some (.int .i64 a5) ∧ w9.cell? ⟨p, 6, none⟩ = some (.int .i64 a6) ∧ w9.cell? ⟨p, 7, none⟩ = some (.int .i64 a7) ∧ w9.cell? ⟨p, 8, none⟩ = some (.bool a8) ∧ w9.cell? ⟨p, 9, none⟩ = some (.string at_) ∧ w9.cell? ⟨p, 10, none⟩ = some (.slice va aL.length ca0) ∧ w9.cell? ⟨r, 0, none⟩ = some (.int .i64 b0) ∧ w9.cell? ⟨r, 1, none⟩ = some (.int .i64 b1) ∧ w9.cell? ⟨r, 2, none⟩ = some (.int .i64 b2) ∧ w9.cell? ⟨r, 3, none⟩ = some (.int .i64 b3) ∧ w9.cell? ⟨r, 4, none⟩ = some (.int .u64 b4) ∧ w9.cell? ⟨r, 5, none⟩ = some (.int .i64 b5) ∧ w9.cell? ⟨r, 6, none⟩ = some (.int .i64 b6) ∧ w9.cell? ⟨r, 7, none⟩ = some (.int .i64 b7) ∧ w9.cell? ⟨r, 8, none⟩ = some (.bool b8) ∧ w9.cell? ⟨r, 9, none⟩ = some (.string bt) ∧ w9.cell? ⟨r, 10, none⟩ = some (.slice vb bL.length cb0)) (by kernel_rfl) ?inva (fun h0 => ?_)
  case inva => ((try dsimp only); (exact HX.out _ _ (Gr.refl _).drew HS0))
  refine late_take (i := 0) (oi := { dst := some 7, op := Go.Op.load 81 (Go.Operand.tmp 2), type := 81, pos := "law.go:109", after := #[], guard := none }) (v := ?va1) rfl (by kernel_rfl) (by kernel_rfl) (by kernel_rfl) (by kernel_rfl) (by kernel_rfl) (fun _ _ _ h => h) (Or.inl ⟨by rfl, ?ra1⟩) (by assumption) ?_
  case ra1 => (intro w hSw; (try dsimp only at hSw); (go_simp <;> with_reducible rfl))
  try simp only [Act.put, List.setIfInBounds_toArray, List.set_cons_zero, List.set_cons_succ]
  refine late_take (i := 2) (oi := { dst := some 9, op := Go.Op.load 81 (Go.Operand.tmp 3), type := 81, pos := "law.go:109", after := #[], guard := none }) (v := ?va2) rfl (by kernel_rfl) (by kernel_rfl) (by kernel_rfl) (by kernel_rfl) (by kernel_rfl) (fun _ _ _ h => h) (Or.inl ⟨by rfl, ?ra2⟩) (by assumption) ?_
  case ra2 => (intro w hSw; (try dsimp only at hSw); (go_simp <;> with_reducible rfl))
  try simp only [Act.put, List.setIfInBounds_toArray, List.set_cons_zero, List.set_cons_succ]
  refine late_ready (rs := [1]) (by kernel_rfl) (by simp) ?_
  refine LateAll.cons (o := { dst := some 8, op := Go.Op.call { callee := Go.Callee.value (Go.Operand.func 37), args := #[Go.Operand.tmp 7], argTypes := #[81] }, type := 81, pos := "law.go:109", after := #[{ on := 0, ground := Go.Ground.data }], guard := none }) rfl (fun K hK => ?_) LateAll.nil
  go_simp
  go_at_call 37
  refine (HFA.out _ (HGZ.out.trans (h0).1)).mono ?_
  rintro e w9 ⟨ms1, la, qa, rfl, HM1, HRA, hgN⟩
  first | refine hK.out _ _ ?sa3 (fun h3 => ?_) | (go_wp2_with fail; refine hK.out _ _ ?sa3 (fun h3 => ?_))
  case sa3 => ((try dsimp only); exact HX.out _ _ hgN h0)
  clear hK K h0
  try simp only [Act.put, List.setIfInBounds_toArray, List.set_cons_zero, List.set_cons_succ]
  refine late_ready (rs := [3]) (by kernel_rfl) (by simp) ?_
  refine LateAll.cons (o := { dst := some 10, op := Go.Op.call { callee := Go.Callee.value (Go.Operand.func 37), args := #[Go.Operand.tmp 9], argTypes := #[81] }, type := 81, pos := "law.go:109", after := #[{ on := 2, ground := Go.Ground.data }, { on := 1, ground := Go.Ground.chain }], guard := none }) rfl (fun K hK => ?_) LateAll.nil
  go_simp
  go_at_call 37
  refine (HFB.out _ (HGZ.out.trans (h3).1)).mono ?_
  rintro e w9 ⟨ms2, lb, qb, rfl, HM2, HRB, hgN⟩
  have hgb := Lib.hid hgN
  first | refine hK.out _ _ ?sa4 (fun h4 => ?_) | (go_wp2_with fail; refine hK.out _ _ ?sa4 (fun h4 => ?_))
  case sa4 => ((try dsimp only); exact HX.out _ _ hgN h3)
  clear hK K h3
  try simp only [Act.put, List.setIfInBounds_toArray, List.set_cons_zero, List.set_cons_succ]
  have h4A := HBA.out.gr (h4).1
  have h4B := HBB.out.gr (h4).1
  have HRA9 := Lib.hid (HRA.out.gr hgb.out)
  have HRB9 := HRB
  have HG9 := Lib.hid (HGZ.out.trans (h4).1)
  clear h4
  obtain ⟨k1, hk1, _, hst1, hgr1, hB1⟩ := blk_store (P := Try.prog) h4A [.int .i64 a0, .int .i64 a1, .int .i64 a2, .int .i64 a3, .int .u64 a4, .int .i64 a5, .int .i64 a6, .int .i64 a7, .bool a8, .string a9, .slice la na qa] rfl (eleven_one _ _ _ _ _ _ _ _ _ _ _ _ _)
  obtain rfl : ms1 = k1 := by rw [HM1.out]; exact hk1
  have h4B1 := h4B.put_other hgr1 hpr
  obtain ⟨k2, hk2, _, hst2, hgr2, hB2⟩ := blk_store (P := Try.prog) h4B1 [.int .i64 b0, .int .i64 b1, .int .i64 b2, .int .i64 b3, .int .u64 b4, .int .i64 b5, .int .i64 b6, .int .i64 b7, .bool b8, .string b9, .slice lb nb qb] rfl (eleven_one _ _ _ _ _ _ _ _ _ _ _ _ _)
  obtain rfl : ms2 = k2 := by rw [HM2.out]; exact hk2
  have HA4 := Lib.hid (show Blk _ p #[.int .i64 a0, .int .i64 a1, .int .i64 a2, .int .i64 a3, .int .u64 a4, .int .i64 a5, .int .i64 a6, .int .i64 a7, .bool a8, .string a9, .slice la na qa] 81 from hB1.put_other hgr2 (Ne.symm hpr))
  have HB4 := Lib.hid (show Blk _ r #[.int .i64 b0, .int .i64 b1, .int .i64 b2, .int .i64 b3, .int .u64 b4, .int .i64 b5, .int .i64 b6, .int .i64 b7, .bool b8, .string b9, .slice lb nb qb] 81 from hB2)
  have HRA4 := Lib.hid ((HRA9.out.put h4A (by decide) hgr1).put h4B1 (by decide) hgr2)
  have HRB4 := Lib.hid ((HRB9.out.put h4A (by decide) hgr1).put h4B1 (by decide) hgr2)
  have HG4 := Lib.hid (gr_put (gr_put HG9.out hgr1 HWP.out) hgr2 HWR.out)
  clear hk1 hk2 hgr1 hgr2 hB1 hB2 h4A h4B h4B1 HRA9 HRB9 HG9 HRA HRB hgb HM1 HM2
  refine late_go (by kernel_rfl) ?_
  refine any_one (i := 4) (o := { dst := none, op := Go.Op.store 81 (Go.Operand.tmp 2) (Go.Operand.tmp 8), type := 0, pos := "law.go:109", after := #[{ on := 1, ground := Go.Ground.data }, { on := 3, ground := Go.Ground.chain }, { on := 0, ground := Go.Ground.phase }, { on := 1, ground := Go.Ground.phase }, { on := 2, ground := Go.Ground.textOnly Go.Departure.lateStores }, { on := 3, ground := Go.Ground.textOnly Go.Departure.lateStoresUnsure }], guard := none }) (by kernel_rfl) rfl (fun K hK => ?_)
  go_simp
  refine hK.out _ _ ?_
  clear hK K
  try simp only [Act.put, List.setIfInBounds_toArray, List.set_cons_zero, List.set_cons_succ]
  refine any_one (i := 5) (o := { dst := none, op := Go.Op.store 81 (Go.Operand.tmp 3) (Go.Operand.tmp 10), type := 0, pos := "law.go:109", after := #[{ on := 3, ground := Go.Ground.data }, { on := 4, ground := Go.Ground.chain }, { on := 0, ground := Go.Ground.phase }, { on := 1, ground := Go.Ground.phase }, { on := 2, ground := Go.Ground.phase }, { on := 3, ground := Go.Ground.phase }, { on := 4, ground := Go.Ground.phase }], guard := none }) (by kernel_rfl) rfl (fun K hK => ?_)
  go_simp
  refine hK.out _ _ ?_
  clear hK K
  try simp only [Act.put, List.setIfInBounds_toArray, List.set_cons_zero, List.set_cons_succ]
  refine any_done (by kernel_rfl) ?_
  clear hst1 hst2 HBA HBB HGZ HX HS0
  generalize ((w9.setCells p 0 ms1).setCells r 0 ms2) = wz at *
  have k0 := HA4.out.cell (i := 0) rfl
  have k1 := HA4.out.cell (i := 1) rfl
  have k2 := HA4.out.cell (i := 2) rfl
  have k3 := HA4.out.cell (i := 3) rfl
  have k4 := HA4.out.cell (i := 4) rfl
  have k5 := HA4.out.cell (i := 5) rfl
  have k6 := HA4.out.cell (i := 6) rfl
  have k7 := HA4.out.cell (i := 7) rfl
  have k8 := HA4.out.cell (i := 8) rfl
  have k9 := HA4.out.cell (i := 9) rfl
  have k10 := HA4.out.cell (i := 10) rfl
  have j0 := HB4.out.cell (i := 0) rfl
  have j1 := HB4.out.cell (i := 1) rfl
  have j2 := HB4.out.cell (i := 2) rfl
  have j3 := HB4.out.cell (i := 3) rfl
  have j4 := HB4.out.cell (i := 4) rfl
  have j5 := HB4.out.cell (i := 5) rfl
  have j6 := HB4.out.cell (i := 6) rfl
  have j7 := HB4.out.cell (i := 7) rfl
  have j8 := HB4.out.cell (i := 8) rfl
  have j9 := HB4.out.cell (i := 9) rfl
  have j10 := HB4.out.cell (i := 10) rfl
  go_wp2
  have HX : Hid (∀ w0 w9 : World, Gr w0 w9 → (fun w9 => Gr wz w9 ∧ w9.cell? ⟨p, 0, none⟩ = some (.int .i64 a0) ∧ w9.cell? ⟨p, 1, none⟩ = some (.int .i64 a1) ∧ w9.cell? ⟨p, 2, none⟩ = some (.int .i64 a2) ∧ w9.cell? ⟨p, 3, none⟩ = some (.int .i64 a3) ∧ w9.cell? ⟨p, 4, none⟩ = some (.int .u64 a4) ∧ w9.cell? ⟨p, 5, none⟩ = some (.int .i64 a5) ∧ w9.cell? ⟨p, 6, none⟩ = some (.int .i64 a6) ∧ w9.cell? ⟨p, 7, none⟩ = some (.int .i64 a7) ∧ w9.cell? ⟨p, 8, none⟩ = some (.bool a8) ∧ w9.cell? ⟨p, 9, none⟩ = some (.string a9) ∧ w9.cell? ⟨p, 10, none⟩ = some (.slice la na qa) ∧ w9.cell? ⟨r, 0, none⟩ = some (.int .i64 b0) ∧ w9.cell? ⟨r, 1, none⟩ = some (.int .i64 b1) ∧ w9.cell? ⟨r, 2, none⟩ = some (.int .i64 b2) ∧ w9.cell? ⟨r, 3, none⟩ = some (.int .i64 b3) ∧ w9.cell? ⟨r, 4, none⟩ = some (.int .u64 b4) ∧ w9.cell? ⟨r, 5, none⟩ = some (.int .i64 b5) ∧ w9.cell? ⟨r, 6, none⟩ = some (.int .i64 b6) ∧ w9.cell? ⟨r, 7, none⟩ = some (.int .i64 b7) ∧ w9.cell? ⟨r, 8, none⟩ = some (.bool b8) ∧ w9.cell? ⟨r, 9, none⟩ = some (.string b9) ∧ w9.cell? ⟨r, 10, none⟩ = some (.slice lb nb qb)) w0 → (fun w9 => Gr wz w9 ∧ w9.cell? ⟨p, 0, none⟩ = some (.int .i64 a0) ∧ w9.cell? ⟨p, 1, none⟩ = some (.int .i64 a1) ∧ w9.cell? ⟨p, 2, none⟩ = some (.int .i64 a2) ∧ w9.cell? ⟨p, 3, none⟩ = some (.int .i64 a3) ∧ w9.cell? ⟨p, 4, none⟩ = some (.int .u64 a4) ∧ w9.cell? ⟨p, 5, none⟩ = some (.int .i64 a5) ∧ w9.cell? ⟨p, 6, none⟩ = some (.int .i64 a6) ∧ w9.cell? ⟨p, 7, none⟩ = some (.int .i64 a7) ∧ w9.cell? ⟨p, 8, none⟩ = some (.bool a8) ∧ w9.cell? ⟨p, 9, none⟩ = some (.string a9) ∧ w9.cell? ⟨p, 10, none⟩ = some (.slice la na qa) ∧ w9.cell? ⟨r, 0, none⟩ = some (.int .i64 b0) ∧ w9.cell? ⟨r, 1, none⟩ = some (.int .i64 b1) ∧ w9.cell? ⟨r, 2, none⟩ = some (.int .i64 b2) ∧ w9.cell? ⟨r, 3, none⟩ = some (.int .i64 b3) ∧ w9.cell? ⟨r, 4, none⟩ = some (.int .u64 b4) ∧ w9.cell? ⟨r, 5, none⟩ = some (.int .i64 b5) ∧ w9.cell? ⟨r, 6, none⟩ = some (.int .i64 b6) ∧ w9.cell? ⟨r, 7, none⟩ = some (.int .i64 b7) ∧ w9.cell? ⟨r, 8, none⟩ = some (.bool b8) ∧ w9.cell? ⟨r, 9, none⟩ = some (.string b9) ∧ w9.cell? ⟨r, 10, none⟩ = some (.slice lb nb qb)) w9) := Lib.hid fun w0 w9 hg ⟨h, q0, q1, q2, q3, q4, q5, q6, q7, q8, q9, q10, q11, q12, q13, q14, q15, q16, q17, q18, q19, q20, q21⟩ => ⟨h.trans hg, hg.cell q0, hg.cell q1, hg.cell q2, hg.cell q3, hg.cell q4, hg.cell q5, hg.cell q6, hg.cell q7, hg.cell q8, hg.cell q9, hg.cell q10, hg.cell q11, hg.cell q12, hg.cell q13, hg.cell q14, hg.cell q15, hg.cell q16, hg.cell q17, hg.cell q18, hg.cell q19, hg.cell q20, hg.cell q21⟩
  have HS0 := And.intro (Gr.refl wz) (And.intro (k0) (And.intro (k1) (And.intro (k2) (And.intro (k3) (And.intro (k4) (And.intro (k5) (And.intro (k6) (And.intro (k7) (And.intro (k8) (And.intro (k9) (And.intro (k10) (And.intro (j0) (And.intro (j1) (And.intro (j2) (And.intro (j3) (And.intro (j4) (And.intro (j5) (And.intro (j6) (And.intro (j7) (And.intro (j8) (And.intro (j9) (j10))))))))))))))))))))))
  clear k0 j0 k1 j1 k2 j2 k3 j3 k4 j4 k5 j5 k6 j6 k7 j7 k8 j8 k9 j9 k10 j10
  rcases hca : decide (ca = 0)
  · have HCA0 := Lib.hid (of_decide_eq_false hca)
    clear hca
    refine wp_region_held_drew (S := (fun w9 => Gr wz w9 ∧ w9.cell? ⟨p, 0, none⟩ = some (.int .i64 a0) ∧ w9.cell? ⟨p, 1, none⟩ = some (.int .i64 a1) ∧ w9.cell? ⟨p, 2, none⟩ = some (.int .i64 a2) ∧ w9.cell? ⟨p, 3, none⟩ = some (.int .i64 a3) ∧ w9.cell? ⟨p, 4, none⟩ = some (.int .u64 a4) ∧ w9.cell? ⟨p, 5, none⟩ = some (.int .i64 a5) ∧ w9.cell? ⟨p, 6, none⟩ = some (.int .i64 a6) ∧ w9.cell? ⟨p, 7, none⟩ = some (.int .i64 a7) ∧ w9.cell? ⟨p, 8, none⟩ = some (.bool a8) ∧ w9.cell? ⟨p, 9, none⟩ = some (.string a9) ∧ w9.cell? ⟨p, 10, none⟩ = some (.slice la na qa) ∧ w9.cell? ⟨r, 0, none⟩ = some (.int .i64 b0) ∧ w9.cell? ⟨r, 1, none⟩ = some (.int .i64 b1) ∧ w9.cell? ⟨r, 2, none⟩ = some (.int .i64 b2) ∧ w9.cell? ⟨r, 3, none⟩ = some (.int .i64 b3) ∧ w9.cell? ⟨r, 4, none⟩ = some (.int .u64 b4) ∧ w9.cell? ⟨r, 5, none⟩ = some (.int .i64 b5) ∧ w9.cell? ⟨r, 6, none⟩ = some (.int .i64 b6) ∧ w9.cell? ⟨r, 7, none⟩ = some (.int .i64 b7) ∧ w9.cell? ⟨r, 8, none⟩ = some (.bool b8) ∧ w9.cell? ⟨r, 9, none⟩ = some (.string b9) ∧ w9.cell? ⟨r, 10, none⟩ = some (.slice lb nb qb))) (by kernel_rfl) ?invb (fun h0 => ?_)
    case invb => ((try dsimp only); (exact HX.out _ _ (Gr.refl _).drew HS0))
    refine wpAnyH_take (i := 0) (oi := { dst := some 11, op := Go.Op.load 81 (Go.Operand.tmp 2), type := 81, pos := "law.go:110", after := #[], guard := none }) (v := ?vb1) rfl (by kernel_rfl) (by kernel_rfl) (by kernel_rfl) (fun _ _ _ h => h) (Or.inl ⟨by rfl, ?rb1⟩) (by assumption) ?_
    case rb1 => (intro w hSw; (try dsimp only at hSw); (go_simp <;> with_reducible rfl))
    try simp only [Act.put, List.setIfInBounds_toArray, List.set_cons_zero, List.set_cons_succ]
    refine wpAnyH_take (i := 2) (oi := { dst := some 13, op := Go.Op.load 81 (Go.Operand.tmp 2), type := 81, pos := "law.go:110", after := #[], guard := none }) (v := ?vb2) rfl (by kernel_rfl) (by kernel_rfl) (by kernel_rfl) (fun _ _ _ h => h) (Or.inl ⟨by rfl, ?rb2⟩) (by assumption) ?_
    case rb2 => (intro w hSw; (try dsimp only at hSw); (go_simp <;> with_reducible rfl))
    try simp only [Act.put, List.setIfInBounds_toArray, List.set_cons_zero, List.set_cons_succ]
    refine wpAnyH_ready (rs := [1]) (by kernel_rfl) (by simp) ?_
    refine AllReadyH.cons (o := { dst := some 12, op := Go.Op.call { callee := Go.Callee.value (Go.Operand.func 39), args := #[Go.Operand.tmp 11], argTypes := #[81] }, type := 69, pos := "law.go:110", after := #[{ on := 0, ground := Go.Ground.data }], guard := none }) rfl (fun K hK => ?_) AllReadyH.nil
    go_simp
    go_at_call 39
    refine (HOWA.out _ _ _ (HRA4.out.gr (h0).1)).mono ?_
    rintro e w9 ⟨o1, u1, rfl, HO1, hgN⟩
    first | refine hK.out _ _ ?sb3 (fun h3 => ?_) | (go_wp2_with fail; refine hK.out _ _ ?sb3 (fun h3 => ?_))
    case sb3 => ((try dsimp only); exact HX.out _ _ hgN h0)
    clear hK K h0
    try simp only [Act.put, List.setIfInBounds_toArray, List.set_cons_zero, List.set_cons_succ]
    refine wpAnyH_ready (rs := [3]) (by kernel_rfl) (by simp) ?_
    refine AllReadyH.cons (o := { dst := some 14, op := Go.Op.call { callee := Go.Callee.value (Go.Operand.func 39), args := #[Go.Operand.tmp 13], argTypes := #[81] }, type := 69, pos := "law.go:110", after := #[{ on := 2, ground := Go.Ground.data }, { on := 1, ground := Go.Ground.chain }], guard := none }) rfl (fun K hK => ?_) AllReadyH.nil
    go_simp
    go_at_call 39
    refine (HOWA.out _ _ _ (HRA4.out.gr (h3).1)).mono ?_
    rintro e w9 ⟨o3, u3, rfl, HO3, hgN⟩
    replace HO1 := Lib.hid (HO1.out.gr hgN)
    first | refine hK.out _ _ ?sb4 (fun h4 => ?_) | (go_wp2_with fail; refine hK.out _ _ ?sb4 (fun h4 => ?_))
    case sb4 => ((try dsimp only); exact HX.out _ _ hgN h3)
    clear hK K h3
    try simp only [Act.put, List.setIfInBounds_toArray, List.set_cons_zero, List.set_cons_succ]
    refine wpAnyH_ready (rs := [4]) (by kernel_rfl) (by simp) ?_
    refine AllReadyH.cons (o := { dst := some 15, op := Go.Op.call { callee := Go.Callee.value (Go.Operand.func 38), args := #[Go.Operand.tmp 12, Go.Operand.tmp 14], argTypes := #[69, 69] }, type := 4, pos := "law.go:110", after := #[{ on := 1, ground := Go.Ground.data }, { on := 3, ground := Go.Ground.data }, { on := 3, ground := Go.Ground.chain }], guard := none }) rfl (fun K hK => ?_) AllReadyH.nil
    go_simp
    go_at_call 38
    refine (HAA.out _ _ _ _ _ HO1.out HO3.out).mono ?_
    rintro e w9 ⟨rfl, hgN⟩
    clear HO1 HO3
    first | refine hK.out _ _ ?sb5 (fun h5 => ?_) | (go_wp2_with fail; refine hK.out _ _ ?sb5 (fun h5 => ?_))
    case sb5 => ((try dsimp only); exact HX.out _ _ hgN h4)
    clear hK K h4
    try simp only [Act.put, List.setIfInBounds_toArray, List.set_cons_zero, List.set_cons_succ]
    refine wpAnyH_take (i := 5) (oi := { dst := some 16, op := Go.Op.move (Go.Operand.tmp 15), type := 4, pos := "law.go:110", after := #[{ on := 4, ground := Go.Ground.data }, { on := 4, ground := Go.Ground.chain }], guard := none }) (v := ?vb6) rfl (by kernel_rfl) (by kernel_rfl) (by kernel_rfl) (fun _ _ _ h => h) (Or.inl ⟨by rfl, ?rb6⟩) (by assumption) ?_
    case rb6 => (intro w hSw; (try dsimp only at hSw); (go_simp <;> with_reducible rfl))
    try simp only [Act.put, List.setIfInBounds_toArray, List.set_cons_zero, List.set_cons_succ]
    refine wpAnyH_take (i := 6) (oi := { dst := some 17, op := Go.Op.load 81 (Go.Operand.tmp 2), type := 81, pos := "law.go:110", after := #[{ on := 5, ground := Go.Ground.guard }], guard := some (5, true) }) (v := ?vb7) rfl (by kernel_rfl) (by kernel_rfl) (by kernel_rfl) (fun _ _ _ h => h) (Or.inl ⟨by rfl, ?rb7⟩) (by assumption) ?_
    case rb7 => (intro w hSw; (try dsimp only at hSw); (go_simp <;> with_reducible rfl))
    try simp only [Act.put, List.setIfInBounds_toArray, List.set_cons_zero, List.set_cons_succ]
    refine wpAnyH_ready (rs := [7]) (by kernel_rfl) (by simp) ?_
    refine AllReadyH.cons (o := { dst := some 18, op := Go.Op.call { callee := Go.Callee.value (Go.Operand.func 40), args := #[Go.Operand.tmp 17], argTypes := #[81] }, type := 3, pos := "law.go:110", after := #[{ on := 6, ground := Go.Ground.data }, { on := 5, ground := Go.Ground.chain }, { on := 5, ground := Go.Ground.guard }], guard := some (5, true) }) rfl (fun K hK => ?_) AllReadyH.nil
    go_simp
    go_at_call 40
    refine (HCA.out _ _ _ (HRA4.out.gr (h5).1)).mono ?_
    rintro e w9 ⟨rfl, hgN⟩
    first | refine hK.out _ _ ?sb8 (fun h8 => ?_) | (go_wp2_with fail; refine hK.out _ _ ?sb8 (fun h8 => ?_))
    case sb8 => ((try dsimp only); exact HX.out _ _ hgN h5)
    clear hK K h5
    try simp only [Act.put, List.setIfInBounds_toArray, List.set_cons_zero, List.set_cons_succ]
    refine wpAnyH_take (i := 8) (oi := { dst := some 19, op := Go.Op.binOp Go.BinOp.neq 3 (Go.Operand.tmp 18) (Go.Operand.const (Go.Value.int Go.IntKind.i64 0)) 3, type := 4, pos := "law.go:110", after := #[{ on := 7, ground := Go.Ground.data }, { on := 5, ground := Go.Ground.guard }], guard := some (5, true) }) (v := (.bool true)) rfl (by kernel_rfl) (by kernel_rfl) (by kernel_rfl) (fun _ _ _ h => h) (Or.inl ⟨by rfl, ?rb9⟩) (by assumption) ?_
    case rb9 => (intro w hSw; (try dsimp only at hSw); go_simp; first | exact HCA0.out | (simp [HCA0.out]; done))
    try simp only [Act.put, List.setIfInBounds_toArray, List.set_cons_zero, List.set_cons_succ]
    refine wpAnyH_take (i := 9) (oi := { dst := some 20, op := Go.Op.move (Go.Operand.tmp 19), type := 4, pos := "law.go:110", after := #[{ on := 8, ground := Go.Ground.data }, { on := 7, ground := Go.Ground.chain }, { on := 5, ground := Go.Ground.guard }], guard := some (5, true) }) (v := ?vb10) rfl (by kernel_rfl) (by kernel_rfl) (by kernel_rfl) (fun _ _ _ h => h) (Or.inl ⟨by rfl, ?rb10⟩) (by assumption) ?_
    case rb10 => (intro w hSw; (try dsimp only at hSw); (go_simp <;> with_reducible rfl))
    try simp only [Act.put, List.setIfInBounds_toArray, List.set_cons_zero, List.set_cons_succ]
    refine wpAnyH_take (i := 10) (oi := { dst := some 21, op := Go.Op.load 81 (Go.Operand.tmp 3), type := 81, pos := "law.go:110", after := #[{ on := 9, ground := Go.Ground.guard }], guard := some (9, false) }) (v := undef) rfl (by kernel_rfl) (by kernel_rfl) (by kernel_rfl) (fun _ _ _ h => h) (Or.inr ⟨by rfl, rfl⟩) (by assumption) ?_
    try simp only [Act.put, List.setIfInBounds_toArray, List.set_cons_zero, List.set_cons_succ]
    refine wpAnyH_take (i := 11) (oi := { dst := some 22, op := Go.Op.call { callee := Go.Callee.value (Go.Operand.func 40), args := #[Go.Operand.tmp 21], argTypes := #[81] }, type := 3, pos := "law.go:110", after := #[{ on := 10, ground := Go.Ground.data }, { on := 9, ground := Go.Ground.chain }, { on := 9, ground := Go.Ground.guard }], guard := some (9, false) }) (v := undef) rfl (by kernel_rfl) (by kernel_rfl) (by kernel_rfl) (fun _ _ _ h => h) (Or.inr ⟨by rfl, rfl⟩) (by assumption) ?_
    try simp only [Act.put, List.setIfInBounds_toArray, List.set_cons_zero, List.set_cons_succ]
    refine wpAnyH_take (i := 12) (oi := { dst := some 23, op := Go.Op.binOp Go.BinOp.neq 3 (Go.Operand.tmp 22) (Go.Operand.const (Go.Value.int Go.IntKind.i64 0)) 3, type := 4, pos := "law.go:110", after := #[{ on := 11, ground := Go.Ground.data }, { on := 9, ground := Go.Ground.guard }], guard := some (9, false) }) (v := undef) rfl (by kernel_rfl) (by kernel_rfl) (by kernel_rfl) (fun _ _ _ h => h) (Or.inr ⟨by rfl, rfl⟩) (by assumption) ?_
    try simp only [Act.put, List.setIfInBounds_toArray, List.set_cons_zero, List.set_cons_succ]
    refine wpAnyH_take (i := 13) (oi := { dst := some 24, op := Go.Op.pick (Go.Operand.tmp 20) (Go.Operand.const (Go.Value.bool true)) (Go.Operand.tmp 23), type := 4, pos := "law.go:110", after := #[{ on := 9, ground := Go.Ground.data }, { on := 12, ground := Go.Ground.data }, { on := 5, ground := Go.Ground.guard }], guard := some (5, true) }) (v := ?vb11) rfl (by kernel_rfl) (by kernel_rfl) (by kernel_rfl) (fun _ _ _ h => h) (Or.inl ⟨by rfl, ?rb11⟩) (by assumption) ?_
    case rb11 => (intro w hSw; (try dsimp only at hSw); (go_simp <;> with_reducible rfl))
    try simp only [Act.put, List.setIfInBounds_toArray, List.set_cons_zero, List.set_cons_succ]
    refine wpAnyH_take (i := 14) (oi := { dst := some 25, op := Go.Op.move (Go.Operand.tmp 24), type := 4, pos := "law.go:110", after := #[{ on := 13, ground := Go.Ground.data }, { on := 11, ground := Go.Ground.chain }, { on := 5, ground := Go.Ground.guard }], guard := some (5, true) }) (v := ?vb12) rfl (by kernel_rfl) (by kernel_rfl) (by kernel_rfl) (fun _ _ _ h => h) (Or.inl ⟨by rfl, ?rb12⟩) (by assumption) ?_
    case rb12 => (intro w hSw; (try dsimp only at hSw); (go_simp <;> with_reducible rfl))
    try simp only [Act.put, List.setIfInBounds_toArray, List.set_cons_zero, List.set_cons_succ]
    refine wpAnyH_take (i := 15) (oi := { dst := some 26, op := Go.Op.load 81 (Go.Operand.tmp 2), type := 81, pos := "law.go:110", after := #[{ on := 14, ground := Go.Ground.guard }], guard := some (14, false) }) (v := undef) rfl (by kernel_rfl) (by kernel_rfl) (by kernel_rfl) (fun _ _ _ h => h) (Or.inr ⟨by rfl, rfl⟩) (by assumption) ?_
    try simp only [Act.put, List.setIfInBounds_toArray, List.set_cons_zero, List.set_cons_succ]
    refine wpAnyH_take (i := 16) (oi := { dst := some 27, op := Go.Op.call { callee := Go.Callee.value (Go.Operand.func 39), args := #[Go.Operand.tmp 26], argTypes := #[81] }, type := 69, pos := "law.go:110", after := #[{ on := 15, ground := Go.Ground.data }, { on := 14, ground := Go.Ground.chain }, { on := 14, ground := Go.Ground.guard }], guard := some (14, false) }) (v := undef) rfl (by kernel_rfl) (by kernel_rfl) (by kernel_rfl) (fun _ _ _ h => h) (Or.inr ⟨by rfl, rfl⟩) (by assumption) ?_
    try simp only [Act.put, List.setIfInBounds_toArray, List.set_cons_zero, List.set_cons_succ]
    refine wpAnyH_take (i := 17) (oi := { dst := some 28, op := Go.Op.load 81 (Go.Operand.tmp 3), type := 81, pos := "law.go:110", after := #[{ on := 14, ground := Go.Ground.guard }], guard := some (14, false) }) (v := undef) rfl (by kernel_rfl) (by kernel_rfl) (by kernel_rfl) (fun _ _ _ h => h) (Or.inr ⟨by rfl, rfl⟩) (by assumption) ?_
    try simp only [Act.put, List.setIfInBounds_toArray, List.set_cons_zero, List.set_cons_succ]
    refine wpAnyH_take (i := 18) (oi := { dst := some 29, op := Go.Op.call { callee := Go.Callee.value (Go.Operand.func 39), args := #[Go.Operand.tmp 28], argTypes := #[81] }, type := 69, pos := "law.go:110", after := #[{ on := 17, ground := Go.Ground.data }, { on := 16, ground := Go.Ground.chain }, { on := 14, ground := Go.Ground.guard }], guard := some (14, false) }) (v := undef) rfl (by kernel_rfl) (by kernel_rfl) (by kernel_rfl) (fun _ _ _ h => h) (Or.inr ⟨by rfl, rfl⟩) (by assumption) ?_
    try simp only [Act.put, List.setIfInBounds_toArray, List.set_cons_zero, List.set_cons_succ]
    refine wpAnyH_take (i := 19) (oi := { dst := some 30, op := Go.Op.call { callee := Go.Callee.value (Go.Operand.func 38), args := #[Go.Operand.tmp 27, Go.Operand.tmp 29], argTypes := #[69, 69] }, type := 4, pos := "law.go:110", after := #[{ on := 16, ground := Go.Ground.data }, { on := 18, ground := Go.Ground.data }, { on := 18, ground := Go.Ground.chain }, { on := 14, ground := Go.Ground.guard }], guard := some (14, false) }) (v := undef) rfl (by kernel_rfl) (by kernel_rfl) (by kernel_rfl) (fun _ _ _ h => h) (Or.inr ⟨by rfl, rfl⟩) (by assumption) ?_
    try simp only [Act.put, List.setIfInBounds_toArray, List.set_cons_zero, List.set_cons_succ]
    refine wpAnyH_take (i := 20) (oi := { dst := some 31, op := Go.Op.load 81 (Go.Operand.tmp 2), type := 81, pos := "law.go:110", after := #[{ on := 14, ground := Go.Ground.guard }], guard := some (14, false) }) (v := undef) rfl (by kernel_rfl) (by kernel_rfl) (by kernel_rfl) (fun _ _ _ h => h) (Or.inr ⟨by rfl, rfl⟩) (by assumption) ?_
    try simp only [Act.put, List.setIfInBounds_toArray, List.set_cons_zero, List.set_cons_succ]
    refine wpAnyH_take (i := 21) (oi := { dst := some 32, op := Go.Op.load 81 (Go.Operand.tmp 3), type := 81, pos := "law.go:110", after := #[{ on := 14, ground := Go.Ground.guard }], guard := some (14, false) }) (v := undef) rfl (by kernel_rfl) (by kernel_rfl) (by kernel_rfl) (fun _ _ _ h => h) (Or.inr ⟨by rfl, rfl⟩) (by assumption) ?_
    try simp only [Act.put, List.setIfInBounds_toArray, List.set_cons_zero, List.set_cons_succ]
    refine wpAnyH_take (i := 22) (oi := { dst := some 33, op := Go.Op.call { callee := Go.Callee.value (Go.Operand.func 41), args := #[Go.Operand.tmp 31, Go.Operand.tmp 32], argTypes := #[81, 81] }, type := 4, pos := "law.go:110", after := #[{ on := 20, ground := Go.Ground.data }, { on := 21, ground := Go.Ground.data }, { on := 19, ground := Go.Ground.chain }, { on := 14, ground := Go.Ground.guard }], guard := some (14, false) }) (v := undef) rfl (by kernel_rfl) (by kernel_rfl) (by kernel_rfl) (fun _ _ _ h => h) (Or.inr ⟨by rfl, rfl⟩) (by assumption) ?_
    try simp only [Act.put, List.setIfInBounds_toArray, List.set_cons_zero, List.set_cons_succ]
    refine wpAnyH_take (i := 23) (oi := { dst := some 34, op := Go.Op.binOp Go.BinOp.eql 4 (Go.Operand.tmp 30) (Go.Operand.tmp 33) 4, type := 4, pos := "law.go:110", after := #[{ on := 19, ground := Go.Ground.data }, { on := 22, ground := Go.Ground.data }, { on := 14, ground := Go.Ground.guard }], guard := some (14, false) }) (v := undef) rfl (by kernel_rfl) (by kernel_rfl) (by kernel_rfl) (fun _ _ _ h => h) (Or.inr ⟨by rfl, rfl⟩) (by assumption) ?_
    try simp only [Act.put, List.setIfInBounds_toArray, List.set_cons_zero, List.set_cons_succ]
    refine wpAnyH_take (i := 24) (oi := { dst := some 35, op := Go.Op.pick (Go.Operand.tmp 25) (Go.Operand.const (Go.Value.bool true)) (Go.Operand.tmp 34), type := 4, pos := "law.go:110", after := #[{ on := 14, ground := Go.Ground.data }, { on := 23, ground := Go.Ground.data }, { on := 5, ground := Go.Ground.guard }], guard := some (5, true) }) (v := ?vb13) rfl (by kernel_rfl) (by kernel_rfl) (by kernel_rfl) (fun _ _ _ h => h) (Or.inl ⟨by rfl, ?rb13⟩) (by assumption) ?_
    case rb13 => (intro w hSw; (try dsimp only at hSw); (go_simp <;> with_reducible rfl))
    try simp only [Act.put, List.setIfInBounds_toArray, List.set_cons_zero, List.set_cons_succ]
    refine wpAnyH_take (i := 25) (oi := { dst := some 36, op := Go.Op.pick (Go.Operand.tmp 16) (Go.Operand.tmp 35) (Go.Operand.const (Go.Value.bool false)), type := 4, pos := "law.go:110", after := #[{ on := 5, ground := Go.Ground.data }, { on := 24, ground := Go.Ground.data }], guard := none }) (v := ?vb14) rfl (by kernel_rfl) (by kernel_rfl) (by kernel_rfl) (fun _ _ _ h => h) (Or.inl ⟨by rfl, ?rb14⟩) (by assumption) ?_
    case rb14 => (intro w hSw; (try dsimp only at hSw); (go_simp <;> with_reducible rfl))
    try simp only [Act.put, List.setIfInBounds_toArray, List.set_cons_zero, List.set_cons_succ]
    refine wpAnyH_take (i := 26) (oi := { dst := some 37, op := Go.Op.move (Go.Operand.tmp 36), type := 4, pos := "law.go:110", after := #[{ on := 25, ground := Go.Ground.data }, { on := 22, ground := Go.Ground.chain }], guard := none }) (v := ?vb15) rfl (by kernel_rfl) (by kernel_rfl) (by kernel_rfl) (fun _ _ _ h => h) (Or.inl ⟨by rfl, ?rb15⟩) (by assumption) ?_
    case rb15 => (intro w hSw; (try dsimp only at hSw); (go_simp <;> with_reducible rfl))
    try simp only [Act.put, List.setIfInBounds_toArray, List.set_cons_zero, List.set_cons_succ]
    refine wpAnyH_take (i := 27) (oi := { dst := some 38, op := Go.Op.load 81 (Go.Operand.tmp 2), type := 81, pos := "law.go:110", after := #[{ on := 26, ground := Go.Ground.guard }], guard := some (26, true) }) (v := ?vb16) rfl (by kernel_rfl) (by kernel_rfl) (by kernel_rfl) (fun _ _ _ h => h) (Or.inl ⟨by rfl, ?rb16⟩) (by assumption) ?_
    case rb16 => (intro w hSw; (try dsimp only at hSw); (go_simp <;> with_reducible rfl))
    try simp only [Act.put, List.setIfInBounds_toArray, List.set_cons_zero, List.set_cons_succ]
    refine wpAnyH_take (i := 29) (oi := { dst := some 40, op := Go.Op.load 81 (Go.Operand.tmp 3), type := 81, pos := "law.go:110", after := #[{ on := 26, ground := Go.Ground.guard }], guard := some (26, true) }) (v := ?vb17) rfl (by kernel_rfl) (by kernel_rfl) (by kernel_rfl) (fun _ _ _ h => h) (Or.inl ⟨by rfl, ?rb17⟩) (by assumption) ?_
    case rb17 => (intro w hSw; (try dsimp only at hSw); (go_simp <;> with_reducible rfl))
    try simp only [Act.put, List.setIfInBounds_toArray, List.set_cons_zero, List.set_cons_succ]
    refine wpAnyH_take (i := 32) (oi := { dst := some 43, op := Go.Op.load 81 (Go.Operand.tmp 3), type := 81, pos := "law.go:110", after := #[{ on := 26, ground := Go.Ground.guard }], guard := some (26, true) }) (v := ?vb18) rfl (by kernel_rfl) (by kernel_rfl) (by kernel_rfl) (fun _ _ _ h => h) (Or.inl ⟨by rfl, ?rb18⟩) (by assumption) ?_
    case rb18 => (intro w hSw; (try dsimp only at hSw); (go_simp <;> with_reducible rfl))
    try simp only [Act.put, List.setIfInBounds_toArray, List.set_cons_zero, List.set_cons_succ]
    refine wpAnyH_take (i := 34) (oi := { dst := some 45, op := Go.Op.load 81 (Go.Operand.tmp 2), type := 81, pos := "law.go:110", after := #[{ on := 26, ground := Go.Ground.guard }], guard := some (26, true) }) (v := ?vb19) rfl (by kernel_rfl) (by kernel_rfl) (by kernel_rfl) (fun _ _ _ h => h) (Or.inl ⟨by rfl, ?rb19⟩) (by assumption) ?_
    case rb19 => (intro w hSw; (try dsimp only at hSw); (go_simp <;> with_reducible rfl))
    try simp only [Act.put, List.setIfInBounds_toArray, List.set_cons_zero, List.set_cons_succ]
    refine wpAnyH_ready (rs := [28]) (by kernel_rfl) (by simp) ?_
    refine AllReadyH.cons (o := { dst := some 39, op := Go.Op.call { callee := Go.Callee.value (Go.Operand.func 39), args := #[Go.Operand.tmp 38], argTypes := #[81] }, type := 69, pos := "law.go:110", after := #[{ on := 27, ground := Go.Ground.data }, { on := 26, ground := Go.Ground.chain }, { on := 26, ground := Go.Ground.guard }], guard := some (26, true) }) rfl (fun K hK => ?_) AllReadyH.nil
    go_simp
    go_at_call 39
    refine (HOWA.out _ _ _ (HRA4.out.gr (h8).1)).mono ?_
    rintro e w9 ⟨o28, u28, rfl, HO28, hgN⟩
    first | refine hK.out _ _ ?sb20 (fun h20 => ?_) | (go_wp2_with fail; refine hK.out _ _ ?sb20 (fun h20 => ?_))
    case sb20 => ((try dsimp only); exact HX.out _ _ hgN h8)
    clear hK K h8
    try simp only [Act.put, List.setIfInBounds_toArray, List.set_cons_zero, List.set_cons_succ]
    refine wpAnyH_ready (rs := [30]) (by kernel_rfl) (by simp) ?_
    refine AllReadyH.cons (o := { dst := some 41, op := Go.Op.call { callee := Go.Callee.value (Go.Operand.func 39), args := #[Go.Operand.tmp 40], argTypes := #[81] }, type := 69, pos := "law.go:110", after := #[{ on := 29, ground := Go.Ground.data }, { on := 28, ground := Go.Ground.chain }, { on := 26, ground := Go.Ground.guard }], guard := some (26, true) }) rfl (fun K hK => ?_) AllReadyH.nil
    go_simp
    go_at_call 39
    refine (HOWB.out _ _ _ (HRB4.out.gr (h20).1)).mono ?_
    rintro e w9 ⟨o30, u30, rfl, HO30, hgN⟩
    replace HO28 := Lib.hid (HO28.out.gr hgN)
    first | refine hK.out _ _ ?sb21 (fun h21 => ?_) | (go_wp2_with fail; refine hK.out _ _ ?sb21 (fun h21 => ?_))
    case sb21 => ((try dsimp only); exact HX.out _ _ hgN h20)
    clear hK K h20
    try simp only [Act.put, List.setIfInBounds_toArray, List.set_cons_zero, List.set_cons_succ]
    refine wpAnyH_ready (rs := [31]) (by kernel_rfl) (by simp) ?_
    refine AllReadyH.cons (o := { dst := some 42, op := Go.Op.call { callee := Go.Callee.value (Go.Operand.func 38), args := #[Go.Operand.tmp 39, Go.Operand.tmp 41], argTypes := #[69, 69] }, type := 4, pos := "law.go:110", after := #[{ on := 28, ground := Go.Ground.data }, { on := 30, ground := Go.Ground.data }, { on := 30, ground := Go.Ground.chain }, { on := 26, ground := Go.Ground.guard }], guard := some (26, true) }) rfl (fun K hK => ?_) AllReadyH.nil
    go_simp
    go_at_call 38
    refine (HAB.out _ _ _ _ _ HO28.out HO30.out).mono ?_
    rintro e w9 ⟨rfl, hgN⟩
    clear HO28 HO30
    first | refine hK.out _ _ ?sb22 (fun h22 => ?_) | (go_wp2_with fail; refine hK.out _ _ ?sb22 (fun h22 => ?_))
    case sb22 => ((try dsimp only); exact HX.out _ _ hgN h21)
    clear hK K h21
    try simp only [Act.put, List.setIfInBounds_toArray, List.set_cons_zero, List.set_cons_succ]
    refine wpAnyH_ready (rs := [33]) (by kernel_rfl) (by simp) ?_
    refine AllReadyH.cons (o := { dst := some 44, op := Go.Op.call { callee := Go.Callee.value (Go.Operand.func 39), args := #[Go.Operand.tmp 43], argTypes := #[81] }, type := 69, pos := "law.go:110", after := #[{ on := 32, ground := Go.Ground.data }, { on := 31, ground := Go.Ground.chain }, { on := 26, ground := Go.Ground.guard }], guard := some (26, true) }) rfl (fun K hK => ?_) AllReadyH.nil
    go_simp
    go_at_call 39
    refine (HOWB.out _ _ _ (HRB4.out.gr (h22).1)).mono ?_
    rintro e w9 ⟨o33, u33, rfl, HO33, hgN⟩
    first | refine hK.out _ _ ?sb23 (fun h23 => ?_) | (go_wp2_with fail; refine hK.out _ _ ?sb23 (fun h23 => ?_))
    case sb23 => ((try dsimp only); exact HX.out _ _ hgN h22)
    clear hK K h22
    try simp only [Act.put, List.setIfInBounds_toArray, List.set_cons_zero, List.set_cons_succ]
    refine wpAnyH_ready (rs := [35]) (by kernel_rfl) (by simp) ?_
    refine AllReadyH.cons (o := { dst := some 46, op := Go.Op.call { callee := Go.Callee.value (Go.Operand.func 39), args := #[Go.Operand.tmp 45], argTypes := #[81] }, type := 69, pos := "law.go:110", after := #[{ on := 34, ground := Go.Ground.data }, { on := 33, ground := Go.Ground.chain }, { on := 26, ground := Go.Ground.guard }], guard := some (26, true) }) rfl (fun K hK => ?_) AllReadyH.nil
    go_simp
    go_at_call 39
    refine (HOWA.out _ _ _ (HRA4.out.gr (h23).1)).mono ?_
    rintro e w9 ⟨o35, u35, rfl, HO35, hgN⟩
    replace HO33 := Lib.hid (HO33.out.gr hgN)
    first | refine hK.out _ _ ?sb24 (fun h24 => ?_) | (go_wp2_with fail; refine hK.out _ _ ?sb24 (fun h24 => ?_))
    case sb24 => ((try dsimp only); exact HX.out _ _ hgN h23)
    clear hK K h23
    try simp only [Act.put, List.setIfInBounds_toArray, List.set_cons_zero, List.set_cons_succ]
    refine wpAnyH_ready (rs := [36]) (by kernel_rfl) (by simp) ?_
    refine AllReadyH.cons (o := { dst := some 47, op := Go.Op.call { callee := Go.Callee.value (Go.Operand.func 38), args := #[Go.Operand.tmp 44, Go.Operand.tmp 46], argTypes := #[69, 69] }, type := 4, pos := "law.go:110", after := #[{ on := 33, ground := Go.Ground.data }, { on := 35, ground := Go.Ground.data }, { on := 35, ground := Go.Ground.chain }, { on := 26, ground := Go.Ground.guard }], guard := some (26, true) }) rfl (fun K hK => ?_) AllReadyH.nil
    go_simp
    go_at_call 38
    refine (HBA2.out _ _ _ _ _ HO33.out HO35.out).mono ?_
    rintro e w9 ⟨rfl, hgN⟩
    clear HO33 HO35
    first | refine hK.out _ _ ?sb25 (fun h25 => ?_) | (go_wp2_with fail; refine hK.out _ _ ?sb25 (fun h25 => ?_))
    case sb25 => ((try dsimp only); exact HX.out _ _ hgN h24)
    clear hK K h24
    try simp only [Act.put, List.setIfInBounds_toArray, List.set_cons_zero, List.set_cons_succ]
    refine wpAnyH_take (i := 37) (oi := { dst := some 48, op := Go.Op.binOp Go.BinOp.eql 4 (Go.Operand.tmp 42) (Go.Operand.tmp 47) 4, type := 4, pos := "law.go:110", after := #[{ on := 31, ground := Go.Ground.data }, { on := 36, ground := Go.Ground.data }, { on := 26, ground := Go.Ground.guard }], guard := some (26, true) }) (v := (.bool true)) rfl (by kernel_rfl) (by kernel_rfl) (by kernel_rfl) (fun _ _ _ h => h) (Or.inl ⟨by rfl, ?rb26⟩) (by assumption) ?_
    case rb26 => (intro w hSw; (try dsimp only at hSw); go_simp; first | done | simp | rfl)
    try simp only [Act.put, List.setIfInBounds_toArray, List.set_cons_zero, List.set_cons_succ]
    refine wpAnyH_take (i := 38) (oi := { dst := some 49, op := Go.Op.pick (Go.Operand.tmp 37) (Go.Operand.tmp 48) (Go.Operand.const (Go.Value.bool false)), type := 4, pos := "law.go:110", after := #[{ on := 26, ground := Go.Ground.data }, { on := 37, ground := Go.Ground.data }], guard := none }) (v := ?vb27) rfl (by kernel_rfl) (by kernel_rfl) (by kernel_rfl) (fun _ _ _ h => h) (Or.inl ⟨by rfl, ?rb27⟩) (by assumption) ?_
    case rb27 => (intro w hSw; (try dsimp only at hSw); (go_simp <;> with_reducible rfl))
    try simp only [Act.put, List.setIfInBounds_toArray, List.set_cons_zero, List.set_cons_succ]
    refine wpAnyH_take (i := 39) (oi := { dst := some 4, op := Go.Op.assign (Go.Operand.tmp 49), type := 4, pos := "law.go:110", after := #[{ on := 38, ground := Go.Ground.data }, { on := 36, ground := Go.Ground.chain }, { on := 0, ground := Go.Ground.phase }, { on := 1, ground := Go.Ground.phase }, { on := 2, ground := Go.Ground.phase }, { on := 3, ground := Go.Ground.phase }, { on := 4, ground := Go.Ground.phase }, { on := 5, ground := Go.Ground.phase }, { on := 6, ground := Go.Ground.phase }, { on := 7, ground := Go.Ground.phase }, { on := 8, ground := Go.Ground.phase }, { on := 9, ground := Go.Ground.phase }, { on := 10, ground := Go.Ground.phase }, { on := 11, ground := Go.Ground.phase }, { on := 12, ground := Go.Ground.phase }, { on := 13, ground := Go.Ground.phase }, { on := 14, ground := Go.Ground.phase }, { on := 15, ground := Go.Ground.phase }, { on := 16, ground := Go.Ground.phase }, { on := 17, ground := Go.Ground.phase }, { on := 18, ground := Go.Ground.phase }, { on := 19, ground := Go.Ground.phase }, { on := 20, ground := Go.Ground.phase }, { on := 21, ground := Go.Ground.phase }, { on := 22, ground := Go.Ground.phase }, { on := 23, ground := Go.Ground.phase }, { on := 24, ground := Go.Ground.phase }, { on := 25, ground := Go.Ground.phase }, { on := 26, ground := Go.Ground.phase }, { on := 27, ground := Go.Ground.phase }, { on := 28, ground := Go.Ground.phase }, { on := 29, ground := Go.Ground.phase }, { on := 30, ground := Go.Ground.phase }, { on := 31, ground := Go.Ground.phase }, { on := 32, ground := Go.Ground.phase }, { on := 33, ground := Go.Ground.phase }, { on := 34, ground := Go.Ground.phase }, { on := 35, ground := Go.Ground.phase }, { on := 36, ground := Go.Ground.phase }, { on := 37, ground := Go.Ground.phase }, { on := 38, ground := Go.Ground.phase }], guard := none }) (v := ?vb28) rfl (by kernel_rfl) (by kernel_rfl) (by kernel_rfl) (fun _ _ _ h => h) (Or.inl ⟨by rfl, ?rb28⟩) (by assumption) ?_
    case rb28 => (intro w hSw; (try dsimp only at hSw); (go_simp <;> with_reducible rfl))
    try simp only [Act.put, List.setIfInBounds_toArray, List.set_cons_zero, List.set_cons_succ]
    refine wpAnyH_done (by kernel_rfl) ?_ _
    have G9 := Lib.hid (h25).1
    clear h25
    go_wp2
    go_ret
    exact ⟨rfl, HG4.out.trans G9.out⟩
  · have HCA0 := Lib.hid (of_decide_eq_true hca)
    clear hca
    rcases hcb : decide (cb = 0)
    · have HCB0 := Lib.hid (of_decide_eq_false hcb)
      clear hcb
      refine wp_region_held_drew (S := (fun w9 => Gr wz w9 ∧ w9.cell? ⟨p, 0, none⟩ = some (.int .i64 a0) ∧ w9.cell? ⟨p, 1, none⟩ = some (.int .i64 a1) ∧ w9.cell? ⟨p, 2, none⟩ = some (.int .i64 a2) ∧ w9.cell? ⟨p, 3, none⟩ = some (.int .i64 a3) ∧ w9.cell? ⟨p, 4, none⟩ = some (.int .u64 a4) ∧ w9.cell? ⟨p, 5, none⟩ = some (.int .i64 a5) ∧ w9.cell? ⟨p, 6, none⟩ = some (.int .i64 a6) ∧ w9.cell? ⟨p, 7, none⟩ = some (.int .i64 a7) ∧ w9.cell? ⟨p, 8, none⟩ = some (.bool a8) ∧ w9.cell? ⟨p, 9, none⟩ = some (.string a9) ∧ w9.cell? ⟨p, 10, none⟩ = some (.slice la na qa) ∧ w9.cell? ⟨r, 0, none⟩ = some (.int .i64 b0) ∧ w9.cell? ⟨r, 1, none⟩ = some (.int .i64 b1) ∧ w9.cell? ⟨r, 2, none⟩ = some (.int .i64 b2) ∧ w9.cell? ⟨r, 3, none⟩ = some (.int .i64 b3) ∧ w9.cell? ⟨r, 4, none⟩ = some (.int .u64 b4) ∧ w9.cell? ⟨r, 5, none⟩ = some (.int .i64 b5) ∧ w9.cell? ⟨r, 6, none⟩ = some (.int .i64 b6) ∧ w9.cell? ⟨r, 7, none⟩ = some (.int .i64 b7) ∧ w9.cell? ⟨r, 8, none⟩ = some (.bool b8) ∧ w9.cell? ⟨r, 9, none⟩ = some (.string b9) ∧ w9.cell? ⟨r, 10, none⟩ = some (.slice lb nb qb))) (by kernel_rfl) ?invc (fun h0 => ?_)
      case invc => ((try dsimp only); (exact HX.out _ _ (Gr.refl _).drew HS0))
      refine wpAnyH_take (i := 0) (oi := { dst := some 11, op := Go.Op.load 81 (Go.Operand.tmp 2), type := 81, pos := "law.go:110", after := #[], guard := none }) (v := ?vc1) rfl (by kernel_rfl) (by kernel_rfl) (by kernel_rfl) (fun _ _ _ h => h) (Or.inl ⟨by rfl, ?rc1⟩) (by assumption) ?_
      case rc1 => (intro w hSw; (try dsimp only at hSw); (go_simp <;> with_reducible rfl))
      try simp only [Act.put, List.setIfInBounds_toArray, List.set_cons_zero, List.set_cons_succ]
      refine wpAnyH_take (i := 2) (oi := { dst := some 13, op := Go.Op.load 81 (Go.Operand.tmp 2), type := 81, pos := "law.go:110", after := #[], guard := none }) (v := ?vc2) rfl (by kernel_rfl) (by kernel_rfl) (by kernel_rfl) (fun _ _ _ h => h) (Or.inl ⟨by rfl, ?rc2⟩) (by assumption) ?_
      case rc2 => (intro w hSw; (try dsimp only at hSw); (go_simp <;> with_reducible rfl))
      try simp only [Act.put, List.setIfInBounds_toArray, List.set_cons_zero, List.set_cons_succ]
      refine wpAnyH_ready (rs := [1]) (by kernel_rfl) (by simp) ?_
      refine AllReadyH.cons (o := { dst := some 12, op := Go.Op.call { callee := Go.Callee.value (Go.Operand.func 39), args := #[Go.Operand.tmp 11], argTypes := #[81] }, type := 69, pos := "law.go:110", after := #[{ on := 0, ground := Go.Ground.data }], guard := none }) rfl (fun K hK => ?_) AllReadyH.nil
      go_simp
      go_at_call 39
      refine (HOWA.out _ _ _ (HRA4.out.gr (h0).1)).mono ?_
      rintro e w9 ⟨o1, u1, rfl, HO1, hgN⟩
      first | refine hK.out _ _ ?sc3 (fun h3 => ?_) | (go_wp2_with fail; refine hK.out _ _ ?sc3 (fun h3 => ?_))
      case sc3 => ((try dsimp only); exact HX.out _ _ hgN h0)
      clear hK K h0
      try simp only [Act.put, List.setIfInBounds_toArray, List.set_cons_zero, List.set_cons_succ]
      refine wpAnyH_ready (rs := [3]) (by kernel_rfl) (by simp) ?_
      refine AllReadyH.cons (o := { dst := some 14, op := Go.Op.call { callee := Go.Callee.value (Go.Operand.func 39), args := #[Go.Operand.tmp 13], argTypes := #[81] }, type := 69, pos := "law.go:110", after := #[{ on := 2, ground := Go.Ground.data }, { on := 1, ground := Go.Ground.chain }], guard := none }) rfl (fun K hK => ?_) AllReadyH.nil
      go_simp
      go_at_call 39
      refine (HOWA.out _ _ _ (HRA4.out.gr (h3).1)).mono ?_
      rintro e w9 ⟨o3, u3, rfl, HO3, hgN⟩
      replace HO1 := Lib.hid (HO1.out.gr hgN)
      first | refine hK.out _ _ ?sc4 (fun h4 => ?_) | (go_wp2_with fail; refine hK.out _ _ ?sc4 (fun h4 => ?_))
      case sc4 => ((try dsimp only); exact HX.out _ _ hgN h3)
      clear hK K h3
      try simp only [Act.put, List.setIfInBounds_toArray, List.set_cons_zero, List.set_cons_succ]
      refine wpAnyH_ready (rs := [4]) (by kernel_rfl) (by simp) ?_
      refine AllReadyH.cons (o := { dst := some 15, op := Go.Op.call { callee := Go.Callee.value (Go.Operand.func 38), args := #[Go.Operand.tmp 12, Go.Operand.tmp 14], argTypes := #[69, 69] }, type := 4, pos := "law.go:110", after := #[{ on := 1, ground := Go.Ground.data }, { on := 3, ground := Go.Ground.data }, { on := 3, ground := Go.Ground.chain }], guard := none }) rfl (fun K hK => ?_) AllReadyH.nil
      go_simp
      go_at_call 38
      refine (HAA.out _ _ _ _ _ HO1.out HO3.out).mono ?_
      rintro e w9 ⟨rfl, hgN⟩
      clear HO1 HO3
      first | refine hK.out _ _ ?sc5 (fun h5 => ?_) | (go_wp2_with fail; refine hK.out _ _ ?sc5 (fun h5 => ?_))
      case sc5 => ((try dsimp only); exact HX.out _ _ hgN h4)
      clear hK K h4
      try simp only [Act.put, List.setIfInBounds_toArray, List.set_cons_zero, List.set_cons_succ]
      refine wpAnyH_take (i := 5) (oi := { dst := some 16, op := Go.Op.move (Go.Operand.tmp 15), type := 4, pos := "law.go:110", after := #[{ on := 4, ground := Go.Ground.data }, { on := 4, ground := Go.Ground.chain }], guard := none }) (v := ?vc6) rfl (by kernel_rfl) (by kernel_rfl) (by kernel_rfl) (fun _ _ _ h => h) (Or.inl ⟨by rfl, ?rc6⟩) (by assumption) ?_
      case rc6 => (intro w hSw; (try dsimp only at hSw); (go_simp <;> with_reducible rfl))
      try simp only [Act.put, List.setIfInBounds_toArray, List.set_cons_zero, List.set_cons_succ]
      refine wpAnyH_take (i := 6) (oi := { dst := some 17, op := Go.Op.load 81 (Go.Operand.tmp 2), type := 81, pos := "law.go:110", after := #[{ on := 5, ground := Go.Ground.guard }], guard := some (5, true) }) (v := ?vc7) rfl (by kernel_rfl) (by kernel_rfl) (by kernel_rfl) (fun _ _ _ h => h) (Or.inl ⟨by rfl, ?rc7⟩) (by assumption) ?_
      case rc7 => (intro w hSw; (try dsimp only at hSw); (go_simp <;> with_reducible rfl))
      try simp only [Act.put, List.setIfInBounds_toArray, List.set_cons_zero, List.set_cons_succ]
      refine wpAnyH_ready (rs := [7]) (by kernel_rfl) (by simp) ?_
      refine AllReadyH.cons (o := { dst := some 18, op := Go.Op.call { callee := Go.Callee.value (Go.Operand.func 40), args := #[Go.Operand.tmp 17], argTypes := #[81] }, type := 3, pos := "law.go:110", after := #[{ on := 6, ground := Go.Ground.data }, { on := 5, ground := Go.Ground.chain }, { on := 5, ground := Go.Ground.guard }], guard := some (5, true) }) rfl (fun K hK => ?_) AllReadyH.nil
      go_simp
      go_at_call 40
      refine (HCA.out _ _ _ (HRA4.out.gr (h5).1)).mono ?_
      rintro e w9 ⟨rfl, hgN⟩
      first | refine hK.out _ _ ?sc8 (fun h8 => ?_) | (go_wp2_with fail; refine hK.out _ _ ?sc8 (fun h8 => ?_))
      case sc8 => ((try dsimp only); exact HX.out _ _ hgN h5)
      clear hK K h5
      try simp only [Act.put, List.setIfInBounds_toArray, List.set_cons_zero, List.set_cons_succ]
      refine wpAnyH_take (i := 8) (oi := { dst := some 19, op := Go.Op.binOp Go.BinOp.neq 3 (Go.Operand.tmp 18) (Go.Operand.const (Go.Value.int Go.IntKind.i64 0)) 3, type := 4, pos := "law.go:110", after := #[{ on := 7, ground := Go.Ground.data }, { on := 5, ground := Go.Ground.guard }], guard := some (5, true) }) (v := (.bool false)) rfl (by kernel_rfl) (by kernel_rfl) (by kernel_rfl) (fun _ _ _ h => h) (Or.inl ⟨by rfl, ?rc9⟩) (by assumption) ?_
      case rc9 => (intro w hSw; (try dsimp only at hSw); go_simp; first | exact HCA0.out | (simp [HCA0.out]; done))
      try simp only [Act.put, List.setIfInBounds_toArray, List.set_cons_zero, List.set_cons_succ]
      refine wpAnyH_take (i := 9) (oi := { dst := some 20, op := Go.Op.move (Go.Operand.tmp 19), type := 4, pos := "law.go:110", after := #[{ on := 8, ground := Go.Ground.data }, { on := 7, ground := Go.Ground.chain }, { on := 5, ground := Go.Ground.guard }], guard := some (5, true) }) (v := ?vc10) rfl (by kernel_rfl) (by kernel_rfl) (by kernel_rfl) (fun _ _ _ h => h) (Or.inl ⟨by rfl, ?rc10⟩) (by assumption) ?_
      case rc10 => (intro w hSw; (try dsimp only at hSw); (go_simp <;> with_reducible rfl))
      try simp only [Act.put, List.setIfInBounds_toArray, List.set_cons_zero, List.set_cons_succ]
      refine wpAnyH_take (i := 10) (oi := { dst := some 21, op := Go.Op.load 81 (Go.Operand.tmp 3), type := 81, pos := "law.go:110", after := #[{ on := 9, ground := Go.Ground.guard }], guard := some (9, false) }) (v := ?vc11) rfl (by kernel_rfl) (by kernel_rfl) (by kernel_rfl) (fun _ _ _ h => h) (Or.inl ⟨by rfl, ?rc11⟩) (by assumption) ?_
      case rc11 => (intro w hSw; (try dsimp only at hSw); (go_simp <;> with_reducible rfl))
      try simp only [Act.put, List.setIfInBounds_toArray, List.set_cons_zero, List.set_cons_succ]
      refine wpAnyH_ready (rs := [11]) (by kernel_rfl) (by simp) ?_
      refine AllReadyH.cons (o := { dst := some 22, op := Go.Op.call { callee := Go.Callee.value (Go.Operand.func 40), args := #[Go.Operand.tmp 21], argTypes := #[81] }, type := 3, pos := "law.go:110", after := #[{ on := 10, ground := Go.Ground.data }, { on := 9, ground := Go.Ground.chain }, { on := 9, ground := Go.Ground.guard }], guard := some (9, false) }) rfl (fun K hK => ?_) AllReadyH.nil
      go_simp
      go_at_call 40
      refine (HCB.out _ _ _ (HRB4.out.gr (h8).1)).mono ?_
      rintro e w9 ⟨rfl, hgN⟩
      first | refine hK.out _ _ ?sc12 (fun h12 => ?_) | (go_wp2_with fail; refine hK.out _ _ ?sc12 (fun h12 => ?_))
      case sc12 => ((try dsimp only); exact HX.out _ _ hgN h8)
      clear hK K h8
      try simp only [Act.put, List.setIfInBounds_toArray, List.set_cons_zero, List.set_cons_succ]
      refine wpAnyH_take (i := 12) (oi := { dst := some 23, op := Go.Op.binOp Go.BinOp.neq 3 (Go.Operand.tmp 22) (Go.Operand.const (Go.Value.int Go.IntKind.i64 0)) 3, type := 4, pos := "law.go:110", after := #[{ on := 11, ground := Go.Ground.data }, { on := 9, ground := Go.Ground.guard }], guard := some (9, false) }) (v := (.bool true)) rfl (by kernel_rfl) (by kernel_rfl) (by kernel_rfl) (fun _ _ _ h => h) (Or.inl ⟨by rfl, ?rc13⟩) (by assumption) ?_
      case rc13 => (intro w hSw; (try dsimp only at hSw); go_simp; first | exact HCB0.out | (simp [HCB0.out]; done))
      try simp only [Act.put, List.setIfInBounds_toArray, List.set_cons_zero, List.set_cons_succ]
      refine wpAnyH_take (i := 13) (oi := { dst := some 24, op := Go.Op.pick (Go.Operand.tmp 20) (Go.Operand.const (Go.Value.bool true)) (Go.Operand.tmp 23), type := 4, pos := "law.go:110", after := #[{ on := 9, ground := Go.Ground.data }, { on := 12, ground := Go.Ground.data }, { on := 5, ground := Go.Ground.guard }], guard := some (5, true) }) (v := ?vc14) rfl (by kernel_rfl) (by kernel_rfl) (by kernel_rfl) (fun _ _ _ h => h) (Or.inl ⟨by rfl, ?rc14⟩) (by assumption) ?_
      case rc14 => (intro w hSw; (try dsimp only at hSw); (go_simp <;> with_reducible rfl))
      try simp only [Act.put, List.setIfInBounds_toArray, List.set_cons_zero, List.set_cons_succ]
      refine wpAnyH_take (i := 14) (oi := { dst := some 25, op := Go.Op.move (Go.Operand.tmp 24), type := 4, pos := "law.go:110", after := #[{ on := 13, ground := Go.Ground.data }, { on := 11, ground := Go.Ground.chain }, { on := 5, ground := Go.Ground.guard }], guard := some (5, true) }) (v := ?vc15) rfl (by kernel_rfl) (by kernel_rfl) (by kernel_rfl) (fun _ _ _ h => h) (Or.inl ⟨by rfl, ?rc15⟩) (by assumption) ?_
      case rc15 => (intro w hSw; (try dsimp only at hSw); (go_simp <;> with_reducible rfl))
      try simp only [Act.put, List.setIfInBounds_toArray, List.set_cons_zero, List.set_cons_succ]
      refine wpAnyH_take (i := 15) (oi := { dst := some 26, op := Go.Op.load 81 (Go.Operand.tmp 2), type := 81, pos := "law.go:110", after := #[{ on := 14, ground := Go.Ground.guard }], guard := some (14, false) }) (v := undef) rfl (by kernel_rfl) (by kernel_rfl) (by kernel_rfl) (fun _ _ _ h => h) (Or.inr ⟨by rfl, rfl⟩) (by assumption) ?_
      try simp only [Act.put, List.setIfInBounds_toArray, List.set_cons_zero, List.set_cons_succ]
      refine wpAnyH_take (i := 16) (oi := { dst := some 27, op := Go.Op.call { callee := Go.Callee.value (Go.Operand.func 39), args := #[Go.Operand.tmp 26], argTypes := #[81] }, type := 69, pos := "law.go:110", after := #[{ on := 15, ground := Go.Ground.data }, { on := 14, ground := Go.Ground.chain }, { on := 14, ground := Go.Ground.guard }], guard := some (14, false) }) (v := undef) rfl (by kernel_rfl) (by kernel_rfl) (by kernel_rfl) (fun _ _ _ h => h) (Or.inr ⟨by rfl, rfl⟩) (by assumption) ?_
      try simp only [Act.put, List.setIfInBounds_toArray, List.set_cons_zero, List.set_cons_succ]
      refine wpAnyH_take (i := 17) (oi := { dst := some 28, op := Go.Op.load 81 (Go.Operand.tmp 3), type := 81, pos := "law.go:110", after := #[{ on := 14, ground := Go.Ground.guard }], guard := some (14, false) }) (v := undef) rfl (by kernel_rfl) (by kernel_rfl) (by kernel_rfl) (fun _ _ _ h => h) (Or.inr ⟨by rfl, rfl⟩) (by assumption) ?_
      try simp only [Act.put, List.setIfInBounds_toArray, List.set_cons_zero, List.set_cons_succ]
      refine wpAnyH_take (i := 18) (oi := { dst := some 29, op := Go.Op.call { callee := Go.Callee.value (Go.Operand.func 39), args := #[Go.Operand.tmp 28], argTypes := #[81] }, type := 69, pos := "law.go:110", after := #[{ on := 17, ground := Go.Ground.data }, { on := 16, ground := Go.Ground.chain }, { on := 14, ground := Go.Ground.guard }], guard := some (14, false) }) (v := undef) rfl (by kernel_rfl) (by kernel_rfl) (by kernel_rfl) (fun _ _ _ h => h) (Or.inr ⟨by rfl, rfl⟩) (by assumption) ?_
      try simp only [Act.put, List.setIfInBounds_toArray, List.set_cons_zero, List.set_cons_succ]
      refine wpAnyH_take (i := 19) (oi := { dst := some 30, op := Go.Op.call { callee := Go.Callee.value (Go.Operand.func 38), args := #[Go.Operand.tmp 27, Go.Operand.tmp 29], argTypes := #[69, 69] }, type := 4, pos := "law.go:110", after := #[{ on := 16, ground := Go.Ground.data }, { on := 18, ground := Go.Ground.data }, { on := 18, ground := Go.Ground.chain }, { on := 14, ground := Go.Ground.guard }], guard := some (14, false) }) (v := undef) rfl (by kernel_rfl) (by kernel_rfl) (by kernel_rfl) (fun _ _ _ h => h) (Or.inr ⟨by rfl, rfl⟩) (by assumption) ?_
      try simp only [Act.put, List.setIfInBounds_toArray, List.set_cons_zero, List.set_cons_succ]
      refine wpAnyH_take (i := 20) (oi := { dst := some 31, op := Go.Op.load 81 (Go.Operand.tmp 2), type := 81, pos := "law.go:110", after := #[{ on := 14, ground := Go.Ground.guard }], guard := some (14, false) }) (v := undef) rfl (by kernel_rfl) (by kernel_rfl) (by kernel_rfl) (fun _ _ _ h => h) (Or.inr ⟨by rfl, rfl⟩) (by assumption) ?_
      try simp only [Act.put, List.setIfInBounds_toArray, List.set_cons_zero, List.set_cons_succ]
      refine wpAnyH_take (i := 21) (oi := { dst := some 32, op := Go.Op.load 81 (Go.Operand.tmp 3), type := 81, pos := "law.go:110", after := #[{ on := 14, ground := Go.Ground.guard }], guard := some (14, false) }) (v := undef) rfl (by kernel_rfl) (by kernel_rfl) (by kernel_rfl) (fun _ _ _ h => h) (Or.inr ⟨by rfl, rfl⟩) (by assumption) ?_
      try simp only [Act.put, List.setIfInBounds_toArray, List.set_cons_zero, List.set_cons_succ]
      refine wpAnyH_take (i := 22) (oi := { dst := some 33, op := Go.Op.call { callee := Go.Callee.value (Go.Operand.func 41), args := #[Go.Operand.tmp 31, Go.Operand.tmp 32], argTypes := #[81, 81] }, type := 4, pos := "law.go:110", after := #[{ on := 20, ground := Go.Ground.data }, { on := 21, ground := Go.Ground.data }, { on := 19, ground := Go.Ground.chain }, { on := 14, ground := Go.Ground.guard }], guard := some (14, false) }) (v := undef) rfl (by kernel_rfl) (by kernel_rfl) (by kernel_rfl) (fun _ _ _ h => h) (Or.inr ⟨by rfl, rfl⟩) (by assumption) ?_
      try simp only [Act.put, List.setIfInBounds_toArray, List.set_cons_zero, List.set_cons_succ]
      refine wpAnyH_take (i := 23) (oi := { dst := some 34, op := Go.Op.binOp Go.BinOp.eql 4 (Go.Operand.tmp 30) (Go.Operand.tmp 33) 4, type := 4, pos := "law.go:110", after := #[{ on := 19, ground := Go.Ground.data }, { on := 22, ground := Go.Ground.data }, { on := 14, ground := Go.Ground.guard }], guard := some (14, false) }) (v := undef) rfl (by kernel_rfl) (by kernel_rfl) (by kernel_rfl) (fun _ _ _ h => h) (Or.inr ⟨by rfl, rfl⟩) (by assumption) ?_
      try simp only [Act.put, List.setIfInBounds_toArray, List.set_cons_zero, List.set_cons_succ]
      refine wpAnyH_take (i := 24) (oi := { dst := some 35, op := Go.Op.pick (Go.Operand.tmp 25) (Go.Operand.const (Go.Value.bool true)) (Go.Operand.tmp 34), type := 4, pos := "law.go:110", after := #[{ on := 14, ground := Go.Ground.data }, { on := 23, ground := Go.Ground.data }, { on := 5, ground := Go.Ground.guard }], guard := some (5, true) }) (v := ?vc16) rfl (by kernel_rfl) (by kernel_rfl) (by kernel_rfl) (fun _ _ _ h => h) (Or.inl ⟨by rfl, ?rc16⟩) (by assumption) ?_
      case rc16 => (intro w hSw; (try dsimp only at hSw); (go_simp <;> with_reducible rfl))
      try simp only [Act.put, List.setIfInBounds_toArray, List.set_cons_zero, List.set_cons_succ]
      refine wpAnyH_take (i := 25) (oi := { dst := some 36, op := Go.Op.pick (Go.Operand.tmp 16) (Go.Operand.tmp 35) (Go.Operand.const (Go.Value.bool false)), type := 4, pos := "law.go:110", after := #[{ on := 5, ground := Go.Ground.data }, { on := 24, ground := Go.Ground.data }], guard := none }) (v := ?vc17) rfl (by kernel_rfl) (by kernel_rfl) (by kernel_rfl) (fun _ _ _ h => h) (Or.inl ⟨by rfl, ?rc17⟩) (by assumption) ?_
      case rc17 => (intro w hSw; (try dsimp only at hSw); (go_simp <;> with_reducible rfl))
      try simp only [Act.put, List.setIfInBounds_toArray, List.set_cons_zero, List.set_cons_succ]
      refine wpAnyH_take (i := 26) (oi := { dst := some 37, op := Go.Op.move (Go.Operand.tmp 36), type := 4, pos := "law.go:110", after := #[{ on := 25, ground := Go.Ground.data }, { on := 22, ground := Go.Ground.chain }], guard := none }) (v := ?vc18) rfl (by kernel_rfl) (by kernel_rfl) (by kernel_rfl) (fun _ _ _ h => h) (Or.inl ⟨by rfl, ?rc18⟩) (by assumption) ?_
      case rc18 => (intro w hSw; (try dsimp only at hSw); (go_simp <;> with_reducible rfl))
      try simp only [Act.put, List.setIfInBounds_toArray, List.set_cons_zero, List.set_cons_succ]
      refine wpAnyH_take (i := 27) (oi := { dst := some 38, op := Go.Op.load 81 (Go.Operand.tmp 2), type := 81, pos := "law.go:110", after := #[{ on := 26, ground := Go.Ground.guard }], guard := some (26, true) }) (v := ?vc19) rfl (by kernel_rfl) (by kernel_rfl) (by kernel_rfl) (fun _ _ _ h => h) (Or.inl ⟨by rfl, ?rc19⟩) (by assumption) ?_
      case rc19 => (intro w hSw; (try dsimp only at hSw); (go_simp <;> with_reducible rfl))
      try simp only [Act.put, List.setIfInBounds_toArray, List.set_cons_zero, List.set_cons_succ]
      refine wpAnyH_take (i := 29) (oi := { dst := some 40, op := Go.Op.load 81 (Go.Operand.tmp 3), type := 81, pos := "law.go:110", after := #[{ on := 26, ground := Go.Ground.guard }], guard := some (26, true) }) (v := ?vc20) rfl (by kernel_rfl) (by kernel_rfl) (by kernel_rfl) (fun _ _ _ h => h) (Or.inl ⟨by rfl, ?rc20⟩) (by assumption) ?_
      case rc20 => (intro w hSw; (try dsimp only at hSw); (go_simp <;> with_reducible rfl))
      try simp only [Act.put, List.setIfInBounds_toArray, List.set_cons_zero, List.set_cons_succ]
      refine wpAnyH_take (i := 32) (oi := { dst := some 43, op := Go.Op.load 81 (Go.Operand.tmp 3), type := 81, pos := "law.go:110", after := #[{ on := 26, ground := Go.Ground.guard }], guard := some (26, true) }) (v := ?vc21) rfl (by kernel_rfl) (by kernel_rfl) (by kernel_rfl) (fun _ _ _ h => h) (Or.inl ⟨by rfl, ?rc21⟩) (by assumption) ?_
      case rc21 => (intro w hSw; (try dsimp only at hSw); (go_simp <;> with_reducible rfl))
      try simp only [Act.put, List.setIfInBounds_toArray, List.set_cons_zero, List.set_cons_succ]
      refine wpAnyH_take (i := 34) (oi := { dst := some 45, op := Go.Op.load 81 (Go.Operand.tmp 2), type := 81, pos := "law.go:110", after := #[{ on := 26, ground := Go.Ground.guard }], guard := some (26, true) }) (v := ?vc22) rfl (by kernel_rfl) (by kernel_rfl) (by kernel_rfl) (fun _ _ _ h => h) (Or.inl ⟨by rfl, ?rc22⟩) (by assumption) ?_
      case rc22 => (intro w hSw; (try dsimp only at hSw); (go_simp <;> with_reducible rfl))
      try simp only [Act.put, List.setIfInBounds_toArray, List.set_cons_zero, List.set_cons_succ]
      refine wpAnyH_ready (rs := [28]) (by kernel_rfl) (by simp) ?_
      refine AllReadyH.cons (o := { dst := some 39, op := Go.Op.call { callee := Go.Callee.value (Go.Operand.func 39), args := #[Go.Operand.tmp 38], argTypes := #[81] }, type := 69, pos := "law.go:110", after := #[{ on := 27, ground := Go.Ground.data }, { on := 26, ground := Go.Ground.chain }, { on := 26, ground := Go.Ground.guard }], guard := some (26, true) }) rfl (fun K hK => ?_) AllReadyH.nil
      go_simp
      go_at_call 39
      refine (HOWA.out _ _ _ (HRA4.out.gr (h12).1)).mono ?_
      rintro e w9 ⟨o28, u28, rfl, HO28, hgN⟩
      first | refine hK.out _ _ ?sc23 (fun h23 => ?_) | (go_wp2_with fail; refine hK.out _ _ ?sc23 (fun h23 => ?_))
      case sc23 => ((try dsimp only); exact HX.out _ _ hgN h12)
      clear hK K h12
      try simp only [Act.put, List.setIfInBounds_toArray, List.set_cons_zero, List.set_cons_succ]
      refine wpAnyH_ready (rs := [30]) (by kernel_rfl) (by simp) ?_
      refine AllReadyH.cons (o := { dst := some 41, op := Go.Op.call { callee := Go.Callee.value (Go.Operand.func 39), args := #[Go.Operand.tmp 40], argTypes := #[81] }, type := 69, pos := "law.go:110", after := #[{ on := 29, ground := Go.Ground.data }, { on := 28, ground := Go.Ground.chain }, { on := 26, ground := Go.Ground.guard }], guard := some (26, true) }) rfl (fun K hK => ?_) AllReadyH.nil
      go_simp
      go_at_call 39
      refine (HOWB.out _ _ _ (HRB4.out.gr (h23).1)).mono ?_
      rintro e w9 ⟨o30, u30, rfl, HO30, hgN⟩
      replace HO28 := Lib.hid (HO28.out.gr hgN)
      first | refine hK.out _ _ ?sc24 (fun h24 => ?_) | (go_wp2_with fail; refine hK.out _ _ ?sc24 (fun h24 => ?_))
      case sc24 => ((try dsimp only); exact HX.out _ _ hgN h23)
      clear hK K h23
      try simp only [Act.put, List.setIfInBounds_toArray, List.set_cons_zero, List.set_cons_succ]
      refine wpAnyH_ready (rs := [31]) (by kernel_rfl) (by simp) ?_
      refine AllReadyH.cons (o := { dst := some 42, op := Go.Op.call { callee := Go.Callee.value (Go.Operand.func 38), args := #[Go.Operand.tmp 39, Go.Operand.tmp 41], argTypes := #[69, 69] }, type := 4, pos := "law.go:110", after := #[{ on := 28, ground := Go.Ground.data }, { on := 30, ground := Go.Ground.data }, { on := 30, ground := Go.Ground.chain }, { on := 26, ground := Go.Ground.guard }], guard := some (26, true) }) rfl (fun K hK => ?_) AllReadyH.nil
      go_simp
      go_at_call 38
      refine (HAB.out _ _ _ _ _ HO28.out HO30.out).mono ?_
      rintro e w9 ⟨rfl, hgN⟩
      clear HO28 HO30
      first | refine hK.out _ _ ?sc25 (fun h25 => ?_) | (go_wp2_with fail; refine hK.out _ _ ?sc25 (fun h25 => ?_))
      case sc25 => ((try dsimp only); exact HX.out _ _ hgN h24)
      clear hK K h24
      try simp only [Act.put, List.setIfInBounds_toArray, List.set_cons_zero, List.set_cons_succ]
      refine wpAnyH_ready (rs := [33]) (by kernel_rfl) (by simp) ?_
      refine AllReadyH.cons (o := { dst := some 44, op := Go.Op.call { callee := Go.Callee.value (Go.Operand.func 39), args := #[Go.Operand.tmp 43], argTypes := #[81] }, type := 69, pos := "law.go:110", after := #[{ on := 32, ground := Go.Ground.data }, { on := 31, ground := Go.Ground.chain }, { on := 26, ground := Go.Ground.guard }], guard := some (26, true) }) rfl (fun K hK => ?_) AllReadyH.nil
      go_simp
      go_at_call 39
      refine (HOWB.out _ _ _ (HRB4.out.gr (h25).1)).mono ?_
      rintro e w9 ⟨o33, u33, rfl, HO33, hgN⟩
      first | refine hK.out _ _ ?sc26 (fun h26 => ?_) | (go_wp2_with fail; refine hK.out _ _ ?sc26 (fun h26 => ?_))
      case sc26 => ((try dsimp only); exact HX.out _ _ hgN h25)
      clear hK K h25
      try simp only [Act.put, List.setIfInBounds_toArray, List.set_cons_zero, List.set_cons_succ]
      refine wpAnyH_ready (rs := [35]) (by kernel_rfl) (by simp) ?_
      refine AllReadyH.cons (o := { dst := some 46, op := Go.Op.call { callee := Go.Callee.value (Go.Operand.func 39), args := #[Go.Operand.tmp 45], argTypes := #[81] }, type := 69, pos := "law.go:110", after := #[{ on := 34, ground := Go.Ground.data }, { on := 33, ground := Go.Ground.chain }, { on := 26, ground := Go.Ground.guard }], guard := some (26, true) }) rfl (fun K hK => ?_) AllReadyH.nil
      go_simp
      go_at_call 39
      refine (HOWA.out _ _ _ (HRA4.out.gr (h26).1)).mono ?_
      rintro e w9 ⟨o35, u35, rfl, HO35, hgN⟩
      replace HO33 := Lib.hid (HO33.out.gr hgN)
      first | refine hK.out _ _ ?sc27 (fun h27 => ?_) | (go_wp2_with fail; refine hK.out _ _ ?sc27 (fun h27 => ?_))
      case sc27 => ((try dsimp only); exact HX.out _ _ hgN h26)
      clear hK K h26
      try simp only [Act.put, List.setIfInBounds_toArray, List.set_cons_zero, List.set_cons_succ]
      refine wpAnyH_ready (rs := [36]) (by kernel_rfl) (by simp) ?_
      refine AllReadyH.cons (o := { dst := some 47, op := Go.Op.call { callee := Go.Callee.value (Go.Operand.func 38), args := #[Go.Operand.tmp 44, Go.Operand.tmp 46], argTypes := #[69, 69] }, type := 4, pos := "law.go:110", after := #[{ on := 33, ground := Go.Ground.data }, { on := 35, ground := Go.Ground.data }, { on := 35, ground := Go.Ground.chain }, { on := 26, ground := Go.Ground.guard }], guard := some (26, true) }) rfl (fun K hK => ?_) AllReadyH.nil
      go_simp
      go_at_call 38
      refine (HBA2.out _ _ _ _ _ HO33.out HO35.out).mono ?_
      rintro e w9 ⟨rfl, hgN⟩
      clear HO33 HO35
      first | refine hK.out _ _ ?sc28 (fun h28 => ?_) | (go_wp2_with fail; refine hK.out _ _ ?sc28 (fun h28 => ?_))
      case sc28 => ((try dsimp only); exact HX.out _ _ hgN h27)
      clear hK K h27
      try simp only [Act.put, List.setIfInBounds_toArray, List.set_cons_zero, List.set_cons_succ]
      refine wpAnyH_take (i := 37) (oi := { dst := some 48, op := Go.Op.binOp Go.BinOp.eql 4 (Go.Operand.tmp 42) (Go.Operand.tmp 47) 4, type := 4, pos := "law.go:110", after := #[{ on := 31, ground := Go.Ground.data }, { on := 36, ground := Go.Ground.data }, { on := 26, ground := Go.Ground.guard }], guard := some (26, true) }) (v := (.bool true)) rfl (by kernel_rfl) (by kernel_rfl) (by kernel_rfl) (fun _ _ _ h => h) (Or.inl ⟨by rfl, ?rc29⟩) (by assumption) ?_
      case rc29 => (intro w hSw; (try dsimp only at hSw); go_simp; first | done | simp | rfl)
      try simp only [Act.put, List.setIfInBounds_toArray, List.set_cons_zero, List.set_cons_succ]
      refine wpAnyH_take (i := 38) (oi := { dst := some 49, op := Go.Op.pick (Go.Operand.tmp 37) (Go.Operand.tmp 48) (Go.Operand.const (Go.Value.bool false)), type := 4, pos := "law.go:110", after := #[{ on := 26, ground := Go.Ground.data }, { on := 37, ground := Go.Ground.data }], guard := none }) (v := ?vc30) rfl (by kernel_rfl) (by kernel_rfl) (by kernel_rfl) (fun _ _ _ h => h) (Or.inl ⟨by rfl, ?rc30⟩) (by assumption) ?_
      case rc30 => (intro w hSw; (try dsimp only at hSw); (go_simp <;> with_reducible rfl))
      try simp only [Act.put, List.setIfInBounds_toArray, List.set_cons_zero, List.set_cons_succ]
      refine wpAnyH_take (i := 39) (oi := { dst := some 4, op := Go.Op.assign (Go.Operand.tmp 49), type := 4, pos := "law.go:110", after := #[{ on := 38, ground := Go.Ground.data }, { on := 36, ground := Go.Ground.chain }, { on := 0, ground := Go.Ground.phase }, { on := 1, ground := Go.Ground.phase }, { on := 2, ground := Go.Ground.phase }, { on := 3, ground := Go.Ground.phase }, { on := 4, ground := Go.Ground.phase }, { on := 5, ground := Go.Ground.phase }, { on := 6, ground := Go.Ground.phase }, { on := 7, ground := Go.Ground.phase }, { on := 8, ground := Go.Ground.phase }, { on := 9, ground := Go.Ground.phase }, { on := 10, ground := Go.Ground.phase }, { on := 11, ground := Go.Ground.phase }, { on := 12, ground := Go.Ground.phase }, { on := 13, ground := Go.Ground.phase }, { on := 14, ground := Go.Ground.phase }, { on := 15, ground := Go.Ground.phase }, { on := 16, ground := Go.Ground.phase }, { on := 17, ground := Go.Ground.phase }, { on := 18, ground := Go.Ground.phase }, { on := 19, ground := Go.Ground.phase }, { on := 20, ground := Go.Ground.phase }, { on := 21, ground := Go.Ground.phase }, { on := 22, ground := Go.Ground.phase }, { on := 23, ground := Go.Ground.phase }, { on := 24, ground := Go.Ground.phase }, { on := 25, ground := Go.Ground.phase }, { on := 26, ground := Go.Ground.phase }, { on := 27, ground := Go.Ground.phase }, { on := 28, ground := Go.Ground.phase }, { on := 29, ground := Go.Ground.phase }, { on := 30, ground := Go.Ground.phase }, { on := 31, ground := Go.Ground.phase }, { on := 32, ground := Go.Ground.phase }, { on := 33, ground := Go.Ground.phase }, { on := 34, ground := Go.Ground.phase }, { on := 35, ground := Go.Ground.phase }, { on := 36, ground := Go.Ground.phase }, { on := 37, ground := Go.Ground.phase }, { on := 38, ground := Go.Ground.phase }], guard := none }) (v := ?vc31) rfl (by kernel_rfl) (by kernel_rfl) (by kernel_rfl) (fun _ _ _ h => h) (Or.inl ⟨by rfl, ?rc31⟩) (by assumption) ?_
      case rc31 => (intro w hSw; (try dsimp only at hSw); (go_simp <;> with_reducible rfl))
      try simp only [Act.put, List.setIfInBounds_toArray, List.set_cons_zero, List.set_cons_succ]
      refine wpAnyH_done (by kernel_rfl) ?_ _
      have G9 := Lib.hid (h28).1
      clear h28
      go_wp2
      go_ret
      exact ⟨rfl, HG4.out.trans G9.out⟩
    · have HCB0 := Lib.hid (of_decide_eq_true hcb)
      have HRS := Lib.hid (HRS0.out HCA0.out HCB0.out)
      clear hcb
      refine wp_region_held_drew (S := (fun w9 => Gr wz w9 ∧ w9.cell? ⟨p, 0, none⟩ = some (.int .i64 a0) ∧ w9.cell? ⟨p, 1, none⟩ = some (.int .i64 a1) ∧ w9.cell? ⟨p, 2, none⟩ = some (.int .i64 a2) ∧ w9.cell? ⟨p, 3, none⟩ = some (.int .i64 a3) ∧ w9.cell? ⟨p, 4, none⟩ = some (.int .u64 a4) ∧ w9.cell? ⟨p, 5, none⟩ = some (.int .i64 a5) ∧ w9.cell? ⟨p, 6, none⟩ = some (.int .i64 a6) ∧ w9.cell? ⟨p, 7, none⟩ = some (.int .i64 a7) ∧ w9.cell? ⟨p, 8, none⟩ = some (.bool a8) ∧ w9.cell? ⟨p, 9, none⟩ = some (.string a9) ∧ w9.cell? ⟨p, 10, none⟩ = some (.slice la na qa) ∧ w9.cell? ⟨r, 0, none⟩ = some (.int .i64 b0) ∧ w9.cell? ⟨r, 1, none⟩ = some (.int .i64 b1) ∧ w9.cell? ⟨r, 2, none⟩ = some (.int .i64 b2) ∧ w9.cell? ⟨r, 3, none⟩ = some (.int .i64 b3) ∧ w9.cell? ⟨r, 4, none⟩ = some (.int .u64 b4) ∧ w9.cell? ⟨r, 5, none⟩ = some (.int .i64 b5) ∧ w9.cell? ⟨r, 6, none⟩ = some (.int .i64 b6) ∧ w9.cell? ⟨r, 7, none⟩ = some (.int .i64 b7) ∧ w9.cell? ⟨r, 8, none⟩ = some (.bool b8) ∧ w9.cell? ⟨r, 9, none⟩ = some (.string b9) ∧ w9.cell? ⟨r, 10, none⟩ = some (.slice lb nb qb))) (by kernel_rfl) ?invd (fun h0 => ?_)
      case invd => ((try dsimp only); (exact HX.out _ _ (Gr.refl _).drew HS0))
      refine wpAnyH_take (i := 0) (oi := { dst := some 11, op := Go.Op.load 81 (Go.Operand.tmp 2), type := 81, pos := "law.go:110", after := #[], guard := none }) (v := ?vd1) rfl (by kernel_rfl) (by kernel_rfl) (by kernel_rfl) (fun _ _ _ h => h) (Or.inl ⟨by rfl, ?rd1⟩) (by assumption) ?_
      case rd1 => (intro w hSw; (try dsimp only at hSw); (go_simp <;> with_reducible rfl))
      try simp only [Act.put, List.setIfInBounds_toArray, List.set_cons_zero, List.set_cons_succ]
      refine wpAnyH_take (i := 2) (oi := { dst := some 13, op := Go.Op.load 81 (Go.Operand.tmp 2), type := 81, pos := "law.go:110", after := #[], guard := none }) (v := ?vd2) rfl (by kernel_rfl) (by kernel_rfl) (by kernel_rfl) (fun _ _ _ h => h) (Or.inl ⟨by rfl, ?rd2⟩) (by assumption) ?_
      case rd2 => (intro w hSw; (try dsimp only at hSw); (go_simp <;> with_reducible rfl))
      try simp only [Act.put, List.setIfInBounds_toArray, List.set_cons_zero, List.set_cons_succ]
      refine wpAnyH_ready (rs := [1]) (by kernel_rfl) (by simp) ?_
      refine AllReadyH.cons (o := { dst := some 12, op := Go.Op.call { callee := Go.Callee.value (Go.Operand.func 39), args := #[Go.Operand.tmp 11], argTypes := #[81] }, type := 69, pos := "law.go:110", after := #[{ on := 0, ground := Go.Ground.data }], guard := none }) rfl (fun K hK => ?_) AllReadyH.nil
      go_simp
      go_at_call 39
      refine (HOWA.out _ _ _ (HRA4.out.gr (h0).1)).mono ?_
      rintro e w9 ⟨o1, u1, rfl, HO1, hgN⟩
      first | refine hK.out _ _ ?sd3 (fun h3 => ?_) | (go_wp2_with fail; refine hK.out _ _ ?sd3 (fun h3 => ?_))
      case sd3 => ((try dsimp only); exact HX.out _ _ hgN h0)
      clear hK K h0
      try simp only [Act.put, List.setIfInBounds_toArray, List.set_cons_zero, List.set_cons_succ]
      refine wpAnyH_ready (rs := [3]) (by kernel_rfl) (by simp) ?_
      refine AllReadyH.cons (o := { dst := some 14, op := Go.Op.call { callee := Go.Callee.value (Go.Operand.func 39), args := #[Go.Operand.tmp 13], argTypes := #[81] }, type := 69, pos := "law.go:110", after := #[{ on := 2, ground := Go.Ground.data }, { on := 1, ground := Go.Ground.chain }], guard := none }) rfl (fun K hK => ?_) AllReadyH.nil
      go_simp
      go_at_call 39
      refine (HOWA.out _ _ _ (HRA4.out.gr (h3).1)).mono ?_
      rintro e w9 ⟨o3, u3, rfl, HO3, hgN⟩
      replace HO1 := Lib.hid (HO1.out.gr hgN)
      first | refine hK.out _ _ ?sd4 (fun h4 => ?_) | (go_wp2_with fail; refine hK.out _ _ ?sd4 (fun h4 => ?_))
      case sd4 => ((try dsimp only); exact HX.out _ _ hgN h3)
      clear hK K h3
      try simp only [Act.put, List.setIfInBounds_toArray, List.set_cons_zero, List.set_cons_succ]
      refine wpAnyH_ready (rs := [4]) (by kernel_rfl) (by simp) ?_
      refine AllReadyH.cons (o := { dst := some 15, op := Go.Op.call { callee := Go.Callee.value (Go.Operand.func 38), args := #[Go.Operand.tmp 12, Go.Operand.tmp 14], argTypes := #[69, 69] }, type := 4, pos := "law.go:110", after := #[{ on := 1, ground := Go.Ground.data }, { on := 3, ground := Go.Ground.data }, { on := 3, ground := Go.Ground.chain }], guard := none }) rfl (fun K hK => ?_) AllReadyH.nil
      go_simp
      go_at_call 38
      refine (HAA.out _ _ _ _ _ HO1.out HO3.out).mono ?_
      rintro e w9 ⟨rfl, hgN⟩
      clear HO1 HO3
      first | refine hK.out _ _ ?sd5 (fun h5 => ?_) | (go_wp2_with fail; refine hK.out _ _ ?sd5 (fun h5 => ?_))
      case sd5 => ((try dsimp only); exact HX.out _ _ hgN h4)
      clear hK K h4
      try simp only [Act.put, List.setIfInBounds_toArray, List.set_cons_zero, List.set_cons_succ]
      refine wpAnyH_take (i := 5) (oi := { dst := some 16, op := Go.Op.move (Go.Operand.tmp 15), type := 4, pos := "law.go:110", after := #[{ on := 4, ground := Go.Ground.data }, { on := 4, ground := Go.Ground.chain }], guard := none }) (v := ?vd6) rfl (by kernel_rfl) (by kernel_rfl) (by kernel_rfl) (fun _ _ _ h => h) (Or.inl ⟨by rfl, ?rd6⟩) (by assumption) ?_
      case rd6 => (intro w hSw; (try dsimp only at hSw); (go_simp <;> with_reducible rfl))
      try simp only [Act.put, List.setIfInBounds_toArray, List.set_cons_zero, List.set_cons_succ]
      refine wpAnyH_take (i := 6) (oi := { dst := some 17, op := Go.Op.load 81 (Go.Operand.tmp 2), type := 81, pos := "law.go:110", after := #[{ on := 5, ground := Go.Ground.guard }], guard := some (5, true) }) (v := ?vd7) rfl (by kernel_rfl) (by kernel_rfl) (by kernel_rfl) (fun _ _ _ h => h) (Or.inl ⟨by rfl, ?rd7⟩) (by assumption) ?_
      case rd7 => (intro w hSw; (try dsimp only at hSw); (go_simp <;> with_reducible rfl))
      try simp only [Act.put, List.setIfInBounds_toArray, List.set_cons_zero, List.set_cons_succ]
      refine wpAnyH_ready (rs := [7]) (by kernel_rfl) (by simp) ?_
      refine AllReadyH.cons (o := { dst := some 18, op := Go.Op.call { callee := Go.Callee.value (Go.Operand.func 40), args := #[Go.Operand.tmp 17], argTypes := #[81] }, type := 3, pos := "law.go:110", after := #[{ on := 6, ground := Go.Ground.data }, { on := 5, ground := Go.Ground.chain }, { on := 5, ground := Go.Ground.guard }], guard := some (5, true) }) rfl (fun K hK => ?_) AllReadyH.nil
      go_simp
      go_at_call 40
      refine (HCA.out _ _ _ (HRA4.out.gr (h5).1)).mono ?_
      rintro e w9 ⟨rfl, hgN⟩
      first | refine hK.out _ _ ?sd8 (fun h8 => ?_) | (go_wp2_with fail; refine hK.out _ _ ?sd8 (fun h8 => ?_))
      case sd8 => ((try dsimp only); exact HX.out _ _ hgN h5)
      clear hK K h5
      try simp only [Act.put, List.setIfInBounds_toArray, List.set_cons_zero, List.set_cons_succ]
      refine wpAnyH_take (i := 8) (oi := { dst := some 19, op := Go.Op.binOp Go.BinOp.neq 3 (Go.Operand.tmp 18) (Go.Operand.const (Go.Value.int Go.IntKind.i64 0)) 3, type := 4, pos := "law.go:110", after := #[{ on := 7, ground := Go.Ground.data }, { on := 5, ground := Go.Ground.guard }], guard := some (5, true) }) (v := (.bool false)) rfl (by kernel_rfl) (by kernel_rfl) (by kernel_rfl) (fun _ _ _ h => h) (Or.inl ⟨by rfl, ?rd9⟩) (by assumption) ?_
      case rd9 => (intro w hSw; (try dsimp only at hSw); go_simp; first | exact HCA0.out | (simp [HCA0.out]; done))
      try simp only [Act.put, List.setIfInBounds_toArray, List.set_cons_zero, List.set_cons_succ]
      refine wpAnyH_take (i := 9) (oi := { dst := some 20, op := Go.Op.move (Go.Operand.tmp 19), type := 4, pos := "law.go:110", after := #[{ on := 8, ground := Go.Ground.data }, { on := 7, ground := Go.Ground.chain }, { on := 5, ground := Go.Ground.guard }], guard := some (5, true) }) (v := ?vd10) rfl (by kernel_rfl) (by kernel_rfl) (by kernel_rfl) (fun _ _ _ h => h) (Or.inl ⟨by rfl, ?rd10⟩) (by assumption) ?_
      case rd10 => (intro w hSw; (try dsimp only at hSw); (go_simp <;> with_reducible rfl))
      try simp only [Act.put, List.setIfInBounds_toArray, List.set_cons_zero, List.set_cons_succ]
      refine wpAnyH_take (i := 10) (oi := { dst := some 21, op := Go.Op.load 81 (Go.Operand.tmp 3), type := 81, pos := "law.go:110", after := #[{ on := 9, ground := Go.Ground.guard }], guard := some (9, false) }) (v := ?vd11) rfl (by kernel_rfl) (by kernel_rfl) (by kernel_rfl) (fun _ _ _ h => h) (Or.inl ⟨by rfl, ?rd11⟩) (by assumption) ?_
      case rd11 => (intro w hSw; (try dsimp only at hSw); (go_simp <;> with_reducible rfl))
      try simp only [Act.put, List.setIfInBounds_toArray, List.set_cons_zero, List.set_cons_succ]
      refine wpAnyH_ready (rs := [11]) (by kernel_rfl) (by simp) ?_
      refine AllReadyH.cons (o := { dst := some 22, op := Go.Op.call { callee := Go.Callee.value (Go.Operand.func 40), args := #[Go.Operand.tmp 21], argTypes := #[81] }, type := 3, pos := "law.go:110", after := #[{ on := 10, ground := Go.Ground.data }, { on := 9, ground := Go.Ground.chain }, { on := 9, ground := Go.Ground.guard }], guard := some (9, false) }) rfl (fun K hK => ?_) AllReadyH.nil
      go_simp
      go_at_call 40
      refine (HCB.out _ _ _ (HRB4.out.gr (h8).1)).mono ?_
      rintro e w9 ⟨rfl, hgN⟩
      first | refine hK.out _ _ ?sd12 (fun h12 => ?_) | (go_wp2_with fail; refine hK.out _ _ ?sd12 (fun h12 => ?_))
      case sd12 => ((try dsimp only); exact HX.out _ _ hgN h8)
      clear hK K h8
      try simp only [Act.put, List.setIfInBounds_toArray, List.set_cons_zero, List.set_cons_succ]
      refine wpAnyH_take (i := 12) (oi := { dst := some 23, op := Go.Op.binOp Go.BinOp.neq 3 (Go.Operand.tmp 22) (Go.Operand.const (Go.Value.int Go.IntKind.i64 0)) 3, type := 4, pos := "law.go:110", after := #[{ on := 11, ground := Go.Ground.data }, { on := 9, ground := Go.Ground.guard }], guard := some (9, false) }) (v := (.bool false)) rfl (by kernel_rfl) (by kernel_rfl) (by kernel_rfl) (fun _ _ _ h => h) (Or.inl ⟨by rfl, ?rd13⟩) (by assumption) ?_
      case rd13 => (intro w hSw; (try dsimp only at hSw); go_simp; first | exact HCB0.out | (simp [HCB0.out]; done))
      try simp only [Act.put, List.setIfInBounds_toArray, List.set_cons_zero, List.set_cons_succ]
      refine wpAnyH_take (i := 13) (oi := { dst := some 24, op := Go.Op.pick (Go.Operand.tmp 20) (Go.Operand.const (Go.Value.bool true)) (Go.Operand.tmp 23), type := 4, pos := "law.go:110", after := #[{ on := 9, ground := Go.Ground.data }, { on := 12, ground := Go.Ground.data }, { on := 5, ground := Go.Ground.guard }], guard := some (5, true) }) (v := ?vd14) rfl (by kernel_rfl) (by kernel_rfl) (by kernel_rfl) (fun _ _ _ h => h) (Or.inl ⟨by rfl, ?rd14⟩) (by assumption) ?_
      case rd14 => (intro w hSw; (try dsimp only at hSw); (go_simp <;> with_reducible rfl))
      try simp only [Act.put, List.setIfInBounds_toArray, List.set_cons_zero, List.set_cons_succ]
      refine wpAnyH_take (i := 14) (oi := { dst := some 25, op := Go.Op.move (Go.Operand.tmp 24), type := 4, pos := "law.go:110", after := #[{ on := 13, ground := Go.Ground.data }, { on := 11, ground := Go.Ground.chain }, { on := 5, ground := Go.Ground.guard }], guard := some (5, true) }) (v := ?vd15) rfl (by kernel_rfl) (by kernel_rfl) (by kernel_rfl) (fun _ _ _ h => h) (Or.inl ⟨by rfl, ?rd15⟩) (by assumption) ?_
      case rd15 => (intro w hSw; (try dsimp only at hSw); (go_simp <;> with_reducible rfl))
      try simp only [Act.put, List.setIfInBounds_toArray, List.set_cons_zero, List.set_cons_succ]
      refine wpAnyH_take (i := 15) (oi := { dst := some 26, op := Go.Op.load 81 (Go.Operand.tmp 2), type := 81, pos := "law.go:110", after := #[{ on := 14, ground := Go.Ground.guard }], guard := some (14, false) }) (v := ?vd16) rfl (by kernel_rfl) (by kernel_rfl) (by kernel_rfl) (fun _ _ _ h => h) (Or.inl ⟨by rfl, ?rd16⟩) (by assumption) ?_
      case rd16 => (intro w hSw; (try dsimp only at hSw); (go_simp <;> with_reducible rfl))
      try simp only [Act.put, List.setIfInBounds_toArray, List.set_cons_zero, List.set_cons_succ]
      refine wpAnyH_take (i := 17) (oi := { dst := some 28, op := Go.Op.load 81 (Go.Operand.tmp 3), type := 81, pos := "law.go:110", after := #[{ on := 14, ground := Go.Ground.guard }], guard := some (14, false) }) (v := ?vd17) rfl (by kernel_rfl) (by kernel_rfl) (by kernel_rfl) (fun _ _ _ h => h) (Or.inl ⟨by rfl, ?rd17⟩) (by assumption) ?_
      case rd17 => (intro w hSw; (try dsimp only at hSw); (go_simp <;> with_reducible rfl))
      try simp only [Act.put, List.setIfInBounds_toArray, List.set_cons_zero, List.set_cons_succ]
      refine wpAnyH_take (i := 20) (oi := { dst := some 31, op := Go.Op.load 81 (Go.Operand.tmp 2), type := 81, pos := "law.go:110", after := #[{ on := 14, ground := Go.Ground.guard }], guard := some (14, false) }) (v := ?vd18) rfl (by kernel_rfl) (by kernel_rfl) (by kernel_rfl) (fun _ _ _ h => h) (Or.inl ⟨by rfl, ?rd18⟩) (by assumption) ?_
      case rd18 => (intro w hSw; (try dsimp only at hSw); (go_simp <;> with_reducible rfl))
      try simp only [Act.put, List.setIfInBounds_toArray, List.set_cons_zero, List.set_cons_succ]
      refine wpAnyH_take (i := 21) (oi := { dst := some 32, op := Go.Op.load 81 (Go.Operand.tmp 3), type := 81, pos := "law.go:110", after := #[{ on := 14, ground := Go.Ground.guard }], guard := some (14, false) }) (v := ?vd19) rfl (by kernel_rfl) (by kernel_rfl) (by kernel_rfl) (fun _ _ _ h => h) (Or.inl ⟨by rfl, ?rd19⟩) (by assumption) ?_
      case rd19 => (intro w hSw; (try dsimp only at hSw); (go_simp <;> with_reducible rfl))
      try simp only [Act.put, List.setIfInBounds_toArray, List.set_cons_zero, List.set_cons_succ]
      refine wpAnyH_ready (rs := [16]) (by kernel_rfl) (by simp) ?_
      refine AllReadyH.cons (o := { dst := some 27, op := Go.Op.call { callee := Go.Callee.value (Go.Operand.func 39), args := #[Go.Operand.tmp 26], argTypes := #[81] }, type := 69, pos := "law.go:110", after := #[{ on := 15, ground := Go.Ground.data }, { on := 14, ground := Go.Ground.chain }, { on := 14, ground := Go.Ground.guard }], guard := some (14, false) }) rfl (fun K hK => ?_) AllReadyH.nil
      go_simp
      go_at_call 39
      refine (HOWA.out _ _ _ (HRA4.out.gr (h12).1)).mono ?_
      rintro e w9 ⟨o16, u16, rfl, HO16, hgN⟩
      first | refine hK.out _ _ ?sd20 (fun h20 => ?_) | (go_wp2_with fail; refine hK.out _ _ ?sd20 (fun h20 => ?_))
      case sd20 => ((try dsimp only); exact HX.out _ _ hgN h12)
      clear hK K h12
      try simp only [Act.put, List.setIfInBounds_toArray, List.set_cons_zero, List.set_cons_succ]
      refine wpAnyH_ready (rs := [18]) (by kernel_rfl) (by simp) ?_
      refine AllReadyH.cons (o := { dst := some 29, op := Go.Op.call { callee := Go.Callee.value (Go.Operand.func 39), args := #[Go.Operand.tmp 28], argTypes := #[81] }, type := 69, pos := "law.go:110", after := #[{ on := 17, ground := Go.Ground.data }, { on := 16, ground := Go.Ground.chain }, { on := 14, ground := Go.Ground.guard }], guard := some (14, false) }) rfl (fun K hK => ?_) AllReadyH.nil
      go_simp
      go_at_call 39
      refine (HOWB.out _ _ _ (HRB4.out.gr (h20).1)).mono ?_
      rintro e w9 ⟨o18, u18, rfl, HO18, hgN⟩
      replace HO16 := Lib.hid (HO16.out.gr hgN)
      first | refine hK.out _ _ ?sd21 (fun h21 => ?_) | (go_wp2_with fail; refine hK.out _ _ ?sd21 (fun h21 => ?_))
      case sd21 => ((try dsimp only); exact HX.out _ _ hgN h20)
      clear hK K h20
      try simp only [Act.put, List.setIfInBounds_toArray, List.set_cons_zero, List.set_cons_succ]
      refine wpAnyH_ready (rs := [19]) (by kernel_rfl) (by simp) ?_
      refine AllReadyH.cons (o := { dst := some 30, op := Go.Op.call { callee := Go.Callee.value (Go.Operand.func 38), args := #[Go.Operand.tmp 27, Go.Operand.tmp 29], argTypes := #[69, 69] }, type := 4, pos := "law.go:110", after := #[{ on := 16, ground := Go.Ground.data }, { on := 18, ground := Go.Ground.data }, { on := 18, ground := Go.Ground.chain }, { on := 14, ground := Go.Ground.guard }], guard := some (14, false) }) rfl (fun K hK => ?_) AllReadyH.nil
      go_simp
      go_at_call 38
      refine (HAB.out _ _ _ _ _ HO16.out HO18.out).mono ?_
      rintro e w9 ⟨rfl, hgN⟩
      clear HO16 HO18
      first | refine hK.out _ _ ?sd22 (fun h22 => ?_) | (go_wp2_with fail; refine hK.out _ _ ?sd22 (fun h22 => ?_))
      case sd22 => ((try dsimp only); exact HX.out _ _ hgN h21)
      clear hK K h21
      try simp only [Act.put, List.setIfInBounds_toArray, List.set_cons_zero, List.set_cons_succ]
      refine wpAnyH_ready (rs := [22]) (by kernel_rfl) (by simp) ?_
      refine AllReadyH.cons (o := { dst := some 33, op := Go.Op.call { callee := Go.Callee.value (Go.Operand.func 41), args := #[Go.Operand.tmp 31, Go.Operand.tmp 32], argTypes := #[81, 81] }, type := 4, pos := "law.go:110", after := #[{ on := 20, ground := Go.Ground.data }, { on := 21, ground := Go.Ground.data }, { on := 19, ground := Go.Ground.chain }, { on := 14, ground := Go.Ground.guard }], guard := some (14, false) }) rfl (fun K hK => ?_) AllReadyH.nil
      go_simp
      go_at_call 41
      refine (HRS.out _ _ _ _ _ (HRA4.out.gr (h22).1) (HRB4.out.gr (h22).1)).mono ?_
      rintro e w9 ⟨rfl, hgN⟩
      first | refine hK.out _ _ ?sd23 (fun h23 => ?_) | (go_wp2_with fail; refine hK.out _ _ ?sd23 (fun h23 => ?_))
      case sd23 => ((try dsimp only); exact HX.out _ _ hgN h22)
      clear hK K h22
      try simp only [Act.put, List.setIfInBounds_toArray, List.set_cons_zero, List.set_cons_succ]
      refine wpAnyH_take (i := 23) (oi := { dst := some 34, op := Go.Op.binOp Go.BinOp.eql 4 (Go.Operand.tmp 30) (Go.Operand.tmp 33) 4, type := 4, pos := "law.go:110", after := #[{ on := 19, ground := Go.Ground.data }, { on := 22, ground := Go.Ground.data }, { on := 14, ground := Go.Ground.guard }], guard := some (14, false) }) (v := (.bool true)) rfl (by kernel_rfl) (by kernel_rfl) (by kernel_rfl) (fun _ _ _ h => h) (Or.inl ⟨by rfl, ?rd24⟩) (by assumption) ?_
      case rd24 => (intro w hSw; (try dsimp only at hSw); go_simp; first | done | simp | rfl)
      try simp only [Act.put, List.setIfInBounds_toArray, List.set_cons_zero, List.set_cons_succ]
      refine wpAnyH_take (i := 24) (oi := { dst := some 35, op := Go.Op.pick (Go.Operand.tmp 25) (Go.Operand.const (Go.Value.bool true)) (Go.Operand.tmp 34), type := 4, pos := "law.go:110", after := #[{ on := 14, ground := Go.Ground.data }, { on := 23, ground := Go.Ground.data }, { on := 5, ground := Go.Ground.guard }], guard := some (5, true) }) (v := ?vd25) rfl (by kernel_rfl) (by kernel_rfl) (by kernel_rfl) (fun _ _ _ h => h) (Or.inl ⟨by rfl, ?rd25⟩) (by assumption) ?_
      case rd25 => (intro w hSw; (try dsimp only at hSw); (go_simp <;> with_reducible rfl))
      try simp only [Act.put, List.setIfInBounds_toArray, List.set_cons_zero, List.set_cons_succ]
      refine wpAnyH_take (i := 25) (oi := { dst := some 36, op := Go.Op.pick (Go.Operand.tmp 16) (Go.Operand.tmp 35) (Go.Operand.const (Go.Value.bool false)), type := 4, pos := "law.go:110", after := #[{ on := 5, ground := Go.Ground.data }, { on := 24, ground := Go.Ground.data }], guard := none }) (v := ?vd26) rfl (by kernel_rfl) (by kernel_rfl) (by kernel_rfl) (fun _ _ _ h => h) (Or.inl ⟨by rfl, ?rd26⟩) (by assumption) ?_
      case rd26 => (intro w hSw; (try dsimp only at hSw); (go_simp <;> with_reducible rfl))
      try simp only [Act.put, List.setIfInBounds_toArray, List.set_cons_zero, List.set_cons_succ]
      refine wpAnyH_take (i := 26) (oi := { dst := some 37, op := Go.Op.move (Go.Operand.tmp 36), type := 4, pos := "law.go:110", after := #[{ on := 25, ground := Go.Ground.data }, { on := 22, ground := Go.Ground.chain }], guard := none }) (v := ?vd27) rfl (by kernel_rfl) (by kernel_rfl) (by kernel_rfl) (fun _ _ _ h => h) (Or.inl ⟨by rfl, ?rd27⟩) (by assumption) ?_
      case rd27 => (intro w hSw; (try dsimp only at hSw); (go_simp <;> with_reducible rfl))
      try simp only [Act.put, List.setIfInBounds_toArray, List.set_cons_zero, List.set_cons_succ]
      refine wpAnyH_take (i := 27) (oi := { dst := some 38, op := Go.Op.load 81 (Go.Operand.tmp 2), type := 81, pos := "law.go:110", after := #[{ on := 26, ground := Go.Ground.guard }], guard := some (26, true) }) (v := ?vd28) rfl (by kernel_rfl) (by kernel_rfl) (by kernel_rfl) (fun _ _ _ h => h) (Or.inl ⟨by rfl, ?rd28⟩) (by assumption) ?_
      case rd28 => (intro w hSw; (try dsimp only at hSw); (go_simp <;> with_reducible rfl))
      try simp only [Act.put, List.setIfInBounds_toArray, List.set_cons_zero, List.set_cons_succ]
      refine wpAnyH_take (i := 29) (oi := { dst := some 40, op := Go.Op.load 81 (Go.Operand.tmp 3), type := 81, pos := "law.go:110", after := #[{ on := 26, ground := Go.Ground.guard }], guard := some (26, true) }) (v := ?vd29) rfl (by kernel_rfl) (by kernel_rfl) (by kernel_rfl) (fun _ _ _ h => h) (Or.inl ⟨by rfl, ?rd29⟩) (by assumption) ?_
      case rd29 => (intro w hSw; (try dsimp only at hSw); (go_simp <;> with_reducible rfl))
      try simp only [Act.put, List.setIfInBounds_toArray, List.set_cons_zero, List.set_cons_succ]
      refine wpAnyH_take (i := 32) (oi := { dst := some 43, op := Go.Op.load 81 (Go.Operand.tmp 3), type := 81, pos := "law.go:110", after := #[{ on := 26, ground := Go.Ground.guard }], guard := some (26, true) }) (v := ?vd30) rfl (by kernel_rfl) (by kernel_rfl) (by kernel_rfl) (fun _ _ _ h => h) (Or.inl ⟨by rfl, ?rd30⟩) (by assumption) ?_
      case rd30 => (intro w hSw; (try dsimp only at hSw); (go_simp <;> with_reducible rfl))
      try simp only [Act.put, List.setIfInBounds_toArray, List.set_cons_zero, List.set_cons_succ]
      refine wpAnyH_take (i := 34) (oi := { dst := some 45, op := Go.Op.load 81 (Go.Operand.tmp 2), type := 81, pos := "law.go:110", after := #[{ on := 26, ground := Go.Ground.guard }], guard := some (26, true) }) (v := ?vd31) rfl (by kernel_rfl) (by kernel_rfl) (by kernel_rfl) (fun _ _ _ h => h) (Or.inl ⟨by rfl, ?rd31⟩) (by assumption) ?_
      case rd31 => (intro w hSw; (try dsimp only at hSw); (go_simp <;> with_reducible rfl))
      try simp only [Act.put, List.setIfInBounds_toArray, List.set_cons_zero, List.set_cons_succ]
      refine wpAnyH_ready (rs := [28]) (by kernel_rfl) (by simp) ?_
      refine AllReadyH.cons (o := { dst := some 39, op := Go.Op.call { callee := Go.Callee.value (Go.Operand.func 39), args := #[Go.Operand.tmp 38], argTypes := #[81] }, type := 69, pos := "law.go:110", after := #[{ on := 27, ground := Go.Ground.data }, { on := 26, ground := Go.Ground.chain }, { on := 26, ground := Go.Ground.guard }], guard := some (26, true) }) rfl (fun K hK => ?_) AllReadyH.nil
      go_simp
      go_at_call 39
      refine (HOWA.out _ _ _ (HRA4.out.gr (h23).1)).mono ?_
      rintro e w9 ⟨o28, u28, rfl, HO28, hgN⟩
      first | refine hK.out _ _ ?sd32 (fun h32 => ?_) | (go_wp2_with fail; refine hK.out _ _ ?sd32 (fun h32 => ?_))
      case sd32 => ((try dsimp only); exact HX.out _ _ hgN h23)
      clear hK K h23
      try simp only [Act.put, List.setIfInBounds_toArray, List.set_cons_zero, List.set_cons_succ]
      refine wpAnyH_ready (rs := [30]) (by kernel_rfl) (by simp) ?_
      refine AllReadyH.cons (o := { dst := some 41, op := Go.Op.call { callee := Go.Callee.value (Go.Operand.func 39), args := #[Go.Operand.tmp 40], argTypes := #[81] }, type := 69, pos := "law.go:110", after := #[{ on := 29, ground := Go.Ground.data }, { on := 28, ground := Go.Ground.chain }, { on := 26, ground := Go.Ground.guard }], guard := some (26, true) }) rfl (fun K hK => ?_) AllReadyH.nil
      go_simp
      go_at_call 39
      refine (HOWB.out _ _ _ (HRB4.out.gr (h32).1)).mono ?_
      rintro e w9 ⟨o30, u30, rfl, HO30, hgN⟩
      replace HO28 := Lib.hid (HO28.out.gr hgN)
      first | refine hK.out _ _ ?sd33 (fun h33 => ?_) | (go_wp2_with fail; refine hK.out _ _ ?sd33 (fun h33 => ?_))
      case sd33 => ((try dsimp only); exact HX.out _ _ hgN h32)
      clear hK K h32
      try simp only [Act.put, List.setIfInBounds_toArray, List.set_cons_zero, List.set_cons_succ]
      refine wpAnyH_ready (rs := [31]) (by kernel_rfl) (by simp) ?_
      refine AllReadyH.cons (o := { dst := some 42, op := Go.Op.call { callee := Go.Callee.value (Go.Operand.func 38), args := #[Go.Operand.tmp 39, Go.Operand.tmp 41], argTypes := #[69, 69] }, type := 4, pos := "law.go:110", after := #[{ on := 28, ground := Go.Ground.data }, { on := 30, ground := Go.Ground.data }, { on := 30, ground := Go.Ground.chain }, { on := 26, ground := Go.Ground.guard }], guard := some (26, true) }) rfl (fun K hK => ?_) AllReadyH.nil
      go_simp
      go_at_call 38
      refine (HAB.out _ _ _ _ _ HO28.out HO30.out).mono ?_
      rintro e w9 ⟨rfl, hgN⟩
      clear HO28 HO30
      first | refine hK.out _ _ ?sd34 (fun h34 => ?_) | (go_wp2_with fail; refine hK.out _ _ ?sd34 (fun h34 => ?_))
      case sd34 => ((try dsimp only); exact HX.out _ _ hgN h33)
      clear hK K h33
      try simp only [Act.put, List.setIfInBounds_toArray, List.set_cons_zero, List.set_cons_succ]
      refine wpAnyH_ready (rs := [33]) (by kernel_rfl) (by simp) ?_
      refine AllReadyH.cons (o := { dst := some 44, op := Go.Op.call { callee := Go.Callee.value (Go.Operand.func 39), args := #[Go.Operand.tmp 43], argTypes := #[81] }, type := 69, pos := "law.go:110", after := #[{ on := 32, ground := Go.Ground.data }, { on := 31, ground := Go.Ground.chain }, { on := 26, ground := Go.Ground.guard }], guard := some (26, true) }) rfl (fun K hK => ?_) AllReadyH.nil
      go_simp
      go_at_call 39
      refine (HOWB.out _ _ _ (HRB4.out.gr (h34).1)).mono ?_
      rintro e w9 ⟨o33, u33, rfl, HO33, hgN⟩
      first | refine hK.out _ _ ?sd35 (fun h35 => ?_) | (go_wp2_with fail; refine hK.out _ _ ?sd35 (fun h35 => ?_))
      case sd35 => ((try dsimp only); exact HX.out _ _ hgN h34)
      clear hK K h34
      try simp only [Act.put, List.setIfInBounds_toArray, List.set_cons_zero, List.set_cons_succ]
      refine wpAnyH_ready (rs := [35]) (by kernel_rfl) (by simp) ?_
      refine AllReadyH.cons (o := { dst := some 46, op := Go.Op.call { callee := Go.Callee.value (Go.Operand.func 39), args := #[Go.Operand.tmp 45], argTypes := #[81] }, type := 69, pos := "law.go:110", after := #[{ on := 34, ground := Go.Ground.data }, { on := 33, ground := Go.Ground.chain }, { on := 26, ground := Go.Ground.guard }], guard := some (26, true) }) rfl (fun K hK => ?_) AllReadyH.nil
      go_simp
      go_at_call 39
      refine (HOWA.out _ _ _ (HRA4.out.gr (h35).1)).mono ?_
      rintro e w9 ⟨o35, u35, rfl, HO35, hgN⟩
      replace HO33 := Lib.hid (HO33.out.gr hgN)
      first | refine hK.out _ _ ?sd36 (fun h36 => ?_) | (go_wp2_with fail; refine hK.out _ _ ?sd36 (fun h36 => ?_))
      case sd36 => ((try dsimp only); exact HX.out _ _ hgN h35)
      clear hK K h35
      try simp only [Act.put, List.setIfInBounds_toArray, List.set_cons_zero, List.set_cons_succ]
      refine wpAnyH_ready (rs := [36]) (by kernel_rfl) (by simp) ?_
      refine AllReadyH.cons (o := { dst := some 47, op := Go.Op.call { callee := Go.Callee.value (Go.Operand.func 38), args := #[Go.Operand.tmp 44, Go.Operand.tmp 46], argTypes := #[69, 69] }, type := 4, pos := "law.go:110", after := #[{ on := 33, ground := Go.Ground.data }, { on := 35, ground := Go.Ground.data }, { on := 35, ground := Go.Ground.chain }, { on := 26, ground := Go.Ground.guard }], guard := some (26, true) }) rfl (fun K hK => ?_) AllReadyH.nil
      go_simp
      go_at_call 38
      refine (HBA2.out _ _ _ _ _ HO33.out HO35.out).mono ?_
      rintro e w9 ⟨rfl, hgN⟩
      clear HO33 HO35
      first | refine hK.out _ _ ?sd37 (fun h37 => ?_) | (go_wp2_with fail; refine hK.out _ _ ?sd37 (fun h37 => ?_))
      case sd37 => ((try dsimp only); exact HX.out _ _ hgN h36)
      clear hK K h36
      try simp only [Act.put, List.setIfInBounds_toArray, List.set_cons_zero, List.set_cons_succ]
      refine wpAnyH_take (i := 37) (oi := { dst := some 48, op := Go.Op.binOp Go.BinOp.eql 4 (Go.Operand.tmp 42) (Go.Operand.tmp 47) 4, type := 4, pos := "law.go:110", after := #[{ on := 31, ground := Go.Ground.data }, { on := 36, ground := Go.Ground.data }, { on := 26, ground := Go.Ground.guard }], guard := some (26, true) }) (v := (.bool true)) rfl (by kernel_rfl) (by kernel_rfl) (by kernel_rfl) (fun _ _ _ h => h) (Or.inl ⟨by rfl, ?rd38⟩) (by assumption) ?_
      case rd38 => (intro w hSw; (try dsimp only at hSw); go_simp; first | done | simp | rfl)
      try simp only [Act.put, List.setIfInBounds_toArray, List.set_cons_zero, List.set_cons_succ]
      refine wpAnyH_take (i := 38) (oi := { dst := some 49, op := Go.Op.pick (Go.Operand.tmp 37) (Go.Operand.tmp 48) (Go.Operand.const (Go.Value.bool false)), type := 4, pos := "law.go:110", after := #[{ on := 26, ground := Go.Ground.data }, { on := 37, ground := Go.Ground.data }], guard := none }) (v := ?vd39) rfl (by kernel_rfl) (by kernel_rfl) (by kernel_rfl) (fun _ _ _ h => h) (Or.inl ⟨by rfl, ?rd39⟩) (by assumption) ?_
      case rd39 => (intro w hSw; (try dsimp only at hSw); (go_simp <;> with_reducible rfl))
      try simp only [Act.put, List.setIfInBounds_toArray, List.set_cons_zero, List.set_cons_succ]
      refine wpAnyH_take (i := 39) (oi := { dst := some 4, op := Go.Op.assign (Go.Operand.tmp 49), type := 4, pos := "law.go:110", after := #[{ on := 38, ground := Go.Ground.data }, { on := 36, ground := Go.Ground.chain }, { on := 0, ground := Go.Ground.phase }, { on := 1, ground := Go.Ground.phase }, { on := 2, ground := Go.Ground.phase }, { on := 3, ground := Go.Ground.phase }, { on := 4, ground := Go.Ground.phase }, { on := 5, ground := Go.Ground.phase }, { on := 6, ground := Go.Ground.phase }, { on := 7, ground := Go.Ground.phase }, { on := 8, ground := Go.Ground.phase }, { on := 9, ground := Go.Ground.phase }, { on := 10, ground := Go.Ground.phase }, { on := 11, ground := Go.Ground.phase }, { on := 12, ground := Go.Ground.phase }, { on := 13, ground := Go.Ground.phase }, { on := 14, ground := Go.Ground.phase }, { on := 15, ground := Go.Ground.phase }, { on := 16, ground := Go.Ground.phase }, { on := 17, ground := Go.Ground.phase }, { on := 18, ground := Go.Ground.phase }, { on := 19, ground := Go.Ground.phase }, { on := 20, ground := Go.Ground.phase }, { on := 21, ground := Go.Ground.phase }, { on := 22, ground := Go.Ground.phase }, { on := 23, ground := Go.Ground.phase }, { on := 24, ground := Go.Ground.phase }, { on := 25, ground := Go.Ground.phase }, { on := 26, ground := Go.Ground.phase }, { on := 27, ground := Go.Ground.phase }, { on := 28, ground := Go.Ground.phase }, { on := 29, ground := Go.Ground.phase }, { on := 30, ground := Go.Ground.phase }, { on := 31, ground := Go.Ground.phase }, { on := 32, ground := Go.Ground.phase }, { on := 33, ground := Go.Ground.phase }, { on := 34, ground := Go.Ground.phase }, { on := 35, ground := Go.Ground.phase }, { on := 36, ground := Go.Ground.phase }, { on := 37, ground := Go.Ground.phase }, { on := 38, ground := Go.Ground.phase }], guard := none }) (v := ?vd40) rfl (by kernel_rfl) (by kernel_rfl) (by kernel_rfl) (fun _ _ _ h => h) (Or.inl ⟨by rfl, ?rd40⟩) (by assumption) ?_
      case rd40 => (intro w hSw; (try dsimp only at hSw); (go_simp <;> with_reducible rfl))
      try simp only [Act.put, List.setIfInBounds_toArray, List.set_cons_zero, List.set_cons_succ]
      refine wpAnyH_done (by kernel_rfl) ?_ _
      have G9 := Lib.hid (h37).1
      clear h37
      go_wp2
      go_ret
      exact ⟨rfl, HG4.out.trans G9.out⟩
end Go.Proofs.Ytihhfdkcggnjpaa
