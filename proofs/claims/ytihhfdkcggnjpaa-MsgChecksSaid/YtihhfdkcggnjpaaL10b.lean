import Derived.Test.YtihhfdkcggnjpaaF10p
import Derived.WalkKit
import Derived.ProofKit
import Derived.LoopTactic
import Derived.Outline
import Derived.WalkSpells
import Derived.WalkLawsBesides
import Derived.Lib.Hide
import Derived.Deep.LoopGhost
import Derived.Deep.QuietTactic
import Derived.BigQuiet
import Derived.ShutString
import Derived.IntWalk
import Derived.Deep.MidRow
import Derived.Deep.RegionHeld3
namespace Go.Proofs.Ytihhfdkcggnjpaa
open Go.ChangeShapes Go.WideShapes Go.ChangeAt Go.RowKit
open Enc Bal
set_option linter.unusedVariables false
set_option linter.unusedSimpArgs false
set_option maxRecDepth 100000 in
set_option maxHeartbeats 8000000 in
theorem msgChecks_walk (a0 a1 a2 a3 a4 a5 a6 a7 : Int) (a8 : Bool) (at_ : ByteArray) (aL : List E) (va : Option Addr) (ca0 : Nat) (w : World) (ha : (⟨a0, a1, a2, a3, a4, a5, a6, a7, a8, at_, aL⟩ : Mg).Wf ∧ ERow w va aL ∧ aL.length ≤ ca0) :
    Calls Try.prog 6 #[.agg #[.int .i64 a0, .int .i64 a1, .int .i64 a2, .int .i64 a3, .int .u64 a4, .int .i64 a5, .int .i64 a6, .int .i64 a7, .bool a8, .string at_, .slice va aL.length ca0]] w fun e w' => e = .returned (.bool true) ∧ Gr w w' := by
  obtain ⟨ha1, ha2, ha3⟩ := ha
  have sa := Mg.few_sm ha1
  have la1 : (⟨a0, a1, a2, a3, a4, a5, a6, a7, a8, at_, aL⟩ : Mg).few.L.length ≤ 1000 := by have := sa.len; omega
  have HFA := Lib.hid fun w9 (hg : Gr w w9) => few_mg (⟨a0, a1, a2, a3, a4, a5, a6, a7, a8, at_, aL⟩ : Mg) w9 ha1 (ha2.gr hg) ha3
  have HOW := Lib.hid fun aa q w9 => own_mg (a := aa) (q := q) (⟨a0, a1, a2, a3, a4, a5, a6, a7, a8, at_, aL⟩ : Mg).few la1 w9
  have HRC := Lib.hid fun aa q w9 => refCheck_mg (a := aa) (q := q) (⟨a0, a1, a2, a3, a4, a5, a6, a7, a8, at_, aL⟩ : Mg).few sa w9
  have HC := Lib.hid fun aa q w9 => check_mg (a := aa) (q := q) (⟨a0, a1, a2, a3, a4, a5, a6, a7, a8, at_, aL⟩ : Mg).few sa w9
  have HBY := Lib.hid fun aa q w9 => bytesX_mg (a := aa) (q := q) (⟨a0, a1, a2, a3, a4, a5, a6, a7, a8, at_, aL⟩ : Mg).few sa w9
  have HRB0 := Lib.hid fun h aa q w9 => refBytes_mg (a := aa) (q := q) (⟨a0, a1, a2, a3, a4, a5, a6, a7, a8, at_, aL⟩ : Mg).few sa h w9
  have HE0 := Lib.hid (show (⟨a0, a1, a2, a3, a4, a5, a6, a7, a8, at_, aL⟩ : Mg).few.check ≠ 0 → (⟨a0, a1, a2, a3, a4, a5, a6, a7, a8, at_, aL⟩ : Mg).few.bytes = ⟨#[]⟩ from fun h => by unfold Mg.bytes; rw [if_neg h])
  generalize (⟨a0, a1, a2, a3, a4, a5, a6, a7, a8, at_, aL⟩ : Mg).few.check = cka at *
  generalize (⟨a0, a1, a2, a3, a4, a5, a6, a7, a8, at_, aL⟩ : Mg).few.bytes = by_ at *
  clear sa la1 ha1 ha2 ha3
  simp only [Mg.few] at HFA HOW HRC HC HBY HRB0
  generalize cutB at_ 300 = a9 at *
  generalize fewE aL = aF at *
  obtain ⟨na, hna⟩ : ∃ n, aF.length = n := ⟨_, rfl⟩
  simp only [hna] at HFA HOW HRC HC HBY HRB0
  clear hna
  go_enter Try.func6, Try.ntmps6
  have HG0 := Lib.hid ((Gr.refl w).alloc (.cells #[.int .i64 a0, .int .i64 a1, .int .i64 a2, .int .i64 a3, .int .u64 a4, .int .i64 a5, .int .i64 a6, .int .i64 a7, .bool a8, .string at_, .slice va aL.length ca0] 81))
  have HBA := Lib.hid (Blk.new w #[.int .i64 a0, .int .i64 a1, .int .i64 a2, .int .i64 a3, .int .u64 a4, .int .i64 a5, .int .i64 a6, .int .i64 a7, .bool a8, .string at_, .slice va aL.length ca0] 81)
  go_wp2_with fail
  refine (awake10 _).mono ?_
  rintro e wz ⟨rfl, hg1⟩
  replace HG0 := Lib.hid (HG0.out.trans hg1)
  replace HBA := Lib.hid (HBA.out.gr hg1)
  clear hg1
  have k0 := HBA.out.cell (i := 0) rfl
  have k1 := HBA.out.cell (i := 1) rfl
  have k2 := HBA.out.cell (i := 2) rfl
  have k3 := HBA.out.cell (i := 3) rfl
  have k4 := HBA.out.cell (i := 4) rfl
  have k5 := HBA.out.cell (i := 5) rfl
  have k6 := HBA.out.cell (i := 6) rfl
  have k7 := HBA.out.cell (i := 7) rfl
  have k8 := HBA.out.cell (i := 8) rfl
  have k9 := HBA.out.cell (i := 9) rfl
  have k10 := HBA.out.cell (i := 10) rfl
  generalize hpp : w.heap.size = p at *
  have HWP := Lib.hid (show w.heap.size ≤ p from Nat.le_of_eq hpp)
  clear hpp
  go_wp2_with fail
  refine (HFA.out _ HG0.out).mono ?_
  rintro e w1 ⟨ms1, la, qa, rfl, HM1, HRA, hg⟩
  replace HG0 := Lib.hid (HG0.out.trans hg)
  replace HBA := Lib.hid (HBA.out.gr hg)
  clear hg k0 k1 k2 k3 k4 k5 k6 k7 k8 k9 k10 HFA
  obtain ⟨ms, hms, hml, hT, hO, hgr, hBl⟩ := blk_put HBA.out #[.int .i64 a0, .int .i64 a1, .int .i64 a2, .int .i64 a3, .int .u64 a4, .int .i64 a5, .int .i64 a6, .int .i64 a7, .bool a8, .string a9, .slice la na qa] rfl (eleven_one _ _ _ _ _ _ _ _ _ _ _ _ _)
  obtain rfl : ms = ms1 := by rw [HM1.out]; have := congrArg (fun v => match v with | Value.agg a => a.toList | _ => []) hms; simpa using this.symm
  have HG := Lib.hid (gr_put HG0.out hgr HWP.out)
  replace HRA := Lib.hid (HRA.out.put HBA.out (by decide) hgr)
  replace HBA := Lib.hid hBl
  have HML := Lib.hid hml
  have HTT := Lib.hid hT
  have HOO := Lib.hid hO
  clear hms hml hT hO hgr hBl HM1 HG0
  have k0 := HBA.out.cell (i := 0) rfl
  have k1 := HBA.out.cell (i := 1) rfl
  have k2 := HBA.out.cell (i := 2) rfl
  have k3 := HBA.out.cell (i := 3) rfl
  have k4 := HBA.out.cell (i := 4) rfl
  have k5 := HBA.out.cell (i := 5) rfl
  have k6 := HBA.out.cell (i := 6) rfl
  have k7 := HBA.out.cell (i := 7) rfl
  have k8 := HBA.out.cell (i := 8) rfl
  have k9 := HBA.out.cell (i := 9) rfl
  have k10 := HBA.out.cell (i := 10) rfl
  go_wp2_with (first | (refine wpList_store_mid rfl 81 (.tmp 1) (.tmp 8) (by rfl) p 0 ms.toArray (by rfl) (by rfl) HTT.out (by rw [HML.out]; kernel_rfl) HOO.out ?_))
  clear HML HTT HOO
  generalize w1.setCells p 0 ms = w2 at *
  refine (HOW.out _ _ _ HRA.out).mono ?_
  rintro e w3 ⟨oa, ua, rfl, HRO, hg⟩
  replace HG := Lib.hid ((HG.out.trans hg).alloc (.cells #[.int .i64 a0, .int .i64 a1, .int .i64 a2, .int .i64 a3, .int .u64 a4, .int .i64 a5, .int .i64 a6, .int .i64 a7, .bool a8, .string a9, .slice oa na ua] 69))
  replace HRA := Lib.hid (HRA.out.gr (hg.alloc (.cells #[.int .i64 a0, .int .i64 a1, .int .i64 a2, .int .i64 a3, .int .u64 a4, .int .i64 a5, .int .i64 a6, .int .i64 a7, .bool a8, .string a9, .slice oa na ua] 69)))
  replace HRO := Lib.hid (HRO.out.gr ((Gr.refl w3).alloc (.cells #[.int .i64 a0, .int .i64 a1, .int .i64 a2, .int .i64 a3, .int .u64 a4, .int .i64 a5, .int .i64 a6, .int .i64 a7, .bool a8, .string a9, .slice oa na ua] 69)))
  replace HBA := Lib.hid (HBA.out.gr (hg.alloc (.cells #[.int .i64 a0, .int .i64 a1, .int .i64 a2, .int .i64 a3, .int .u64 a4, .int .i64 a5, .int .i64 a6, .int .i64 a7, .bool a8, .string a9, .slice oa na ua] 69)))
  have HBX := Lib.hid (Blk.new w3 #[.int .i64 a0, .int .i64 a1, .int .i64 a2, .int .i64 a3, .int .u64 a4, .int .i64 a5, .int .i64 a6, .int .i64 a7, .bool a8, .string a9, .slice oa na ua] 69)
  clear hg k0 k1 k2 k3 k4 k5 k6 k7 k8 k9 k10 HOW
  have k0 := HBA.out.cell (i := 0) rfl
  have k1 := HBA.out.cell (i := 1) rfl
  have k2 := HBA.out.cell (i := 2) rfl
  have k3 := HBA.out.cell (i := 3) rfl
  have k4 := HBA.out.cell (i := 4) rfl
  have k5 := HBA.out.cell (i := 5) rfl
  have k6 := HBA.out.cell (i := 6) rfl
  have k7 := HBA.out.cell (i := 7) rfl
  have k8 := HBA.out.cell (i := 8) rfl
  have k9 := HBA.out.cell (i := 9) rfl
  have k10 := HBA.out.cell (i := 10) rfl
  go_wp2_with fail
  generalize w3.alloc (.cells #[.int .i64 a0, .int .i64 a1, .int .i64 a2, .int .i64 a3, .int .u64 a4, .int .i64 a5, .int .i64 a6, .int .i64 a7, .bool a8, .string a9, .slice oa na ua] 69) = w4 at *
  generalize w3.heap.size = x at *
  refine (HRC.out _ _ _ HRA.out).mono ?_
  rintro e w5 ⟨rfl, hg⟩
  replace HG := Lib.hid (HG.out.trans hg)
  replace HRA := Lib.hid (HRA.out.gr hg)
  replace HRO := Lib.hid (HRO.out.gr hg)
  replace HBA := Lib.hid (HBA.out.gr hg)
  replace HBX := Lib.hid (HBX.out.gr hg)
  clear hg k0 k1 k2 k3 k4 k5 k6 k7 k8 k9 k10 HRC
  have j0 := HBX.out.cell (i := 0) rfl
  have j1 := HBX.out.cell (i := 1) rfl
  have j2 := HBX.out.cell (i := 2) rfl
  have j3 := HBX.out.cell (i := 3) rfl
  have j4 := HBX.out.cell (i := 4) rfl
  have j5 := HBX.out.cell (i := 5) rfl
  have j6 := HBX.out.cell (i := 6) rfl
  have j7 := HBX.out.cell (i := 7) rfl
  have j8 := HBX.out.cell (i := 8) rfl
  have j9 := HBX.out.cell (i := 9) rfl
  have j10 := HBX.out.cell (i := 10) rfl
  go_wp2_with fail
  refine (HC.out _ _ _ HRO.out).mono ?_
  rintro e wz ⟨rfl, hg⟩
  replace HG := Lib.hid (HG.out.trans hg)
  replace HRA := Lib.hid (HRA.out.gr hg)
  replace HRO := Lib.hid (HRO.out.gr hg)
  replace HBA := Lib.hid (HBA.out.gr hg)
  replace HBX := Lib.hid (HBX.out.gr hg)
  clear hg j0 j1 j2 j3 j4 j5 j6 j7 j8 j9 j10 HC
  by_cases h0 : cka = 0
  · subst h0
    have HRB := Lib.hid (HRB0.out rfl)
    clear HE0
    have k0 := HBA.out.cell (i := 0) rfl
    have k1 := HBA.out.cell (i := 1) rfl
    have k2 := HBA.out.cell (i := 2) rfl
    have k3 := HBA.out.cell (i := 3) rfl
    have k4 := HBA.out.cell (i := 4) rfl
    have k5 := HBA.out.cell (i := 5) rfl
    have k6 := HBA.out.cell (i := 6) rfl
    have k7 := HBA.out.cell (i := 7) rfl
    have k8 := HBA.out.cell (i := 8) rfl
    have k9 := HBA.out.cell (i := 9) rfl
    have k10 := HBA.out.cell (i := 10) rfl
    have j0 := HBX.out.cell (i := 0) rfl
    have j1 := HBX.out.cell (i := 1) rfl
    have j2 := HBX.out.cell (i := 2) rfl
    have j3 := HBX.out.cell (i := 3) rfl
    have j4 := HBX.out.cell (i := 4) rfl
    have j5 := HBX.out.cell (i := 5) rfl
    have j6 := HBX.out.cell (i := 6) rfl
    have j7 := HBX.out.cell (i := 7) rfl
    have j8 := HBX.out.cell (i := 8) rfl
    have j9 := HBX.out.cell (i := 9) rfl
    have j10 := HBX.out.cell (i := 10) rfl
    go_wp2
    have HX : Hid (∀ w0 w9 : World, Gr w0 w9 → (fun w9 => Gr wz w9 ∧ w9.cell? ⟨p, 0, none⟩ = some (.int .i64 a0) ∧ w9.cell? ⟨p, 1, none⟩ = some (.int .i64 a1) ∧ w9.cell? ⟨p, 2, none⟩ = some (.int .i64 a2) ∧ w9.cell? ⟨p, 3, none⟩ = some (.int .i64 a3) ∧ w9.cell? ⟨p, 4, none⟩ = some (.int .u64 a4) ∧ w9.cell? ⟨p, 5, none⟩ = some (.int .i64 a5) ∧ w9.cell? ⟨p, 6, none⟩ = some (.int .i64 a6) ∧ w9.cell? ⟨p, 7, none⟩ = some (.int .i64 a7) ∧ w9.cell? ⟨p, 8, none⟩ = some (.bool a8) ∧ w9.cell? ⟨p, 9, none⟩ = some (.string a9) ∧ w9.cell? ⟨p, 10, none⟩ = some (.slice la na qa) ∧ w9.cell? ⟨x, 0, none⟩ = some (.int .i64 a0) ∧ w9.cell? ⟨x, 1, none⟩ = some (.int .i64 a1) ∧ w9.cell? ⟨x, 2, none⟩ = some (.int .i64 a2) ∧ w9.cell? ⟨x, 3, none⟩ = some (.int .i64 a3) ∧ w9.cell? ⟨x, 4, none⟩ = some (.int .u64 a4) ∧ w9.cell? ⟨x, 5, none⟩ = some (.int .i64 a5) ∧ w9.cell? ⟨x, 6, none⟩ = some (.int .i64 a6) ∧ w9.cell? ⟨x, 7, none⟩ = some (.int .i64 a7) ∧ w9.cell? ⟨x, 8, none⟩ = some (.bool a8) ∧ w9.cell? ⟨x, 9, none⟩ = some (.string a9) ∧ w9.cell? ⟨x, 10, none⟩ = some (.slice oa na ua)) w0 → (fun w9 => Gr wz w9 ∧ w9.cell? ⟨p, 0, none⟩ = some (.int .i64 a0) ∧ w9.cell? ⟨p, 1, none⟩ = some (.int .i64 a1) ∧ w9.cell? ⟨p, 2, none⟩ = some (.int .i64 a2) ∧ w9.cell? ⟨p, 3, none⟩ = some (.int .i64 a3) ∧ w9.cell? ⟨p, 4, none⟩ = some (.int .u64 a4) ∧ w9.cell? ⟨p, 5, none⟩ = some (.int .i64 a5) ∧ w9.cell? ⟨p, 6, none⟩ = some (.int .i64 a6) ∧ w9.cell? ⟨p, 7, none⟩ = some (.int .i64 a7) ∧ w9.cell? ⟨p, 8, none⟩ = some (.bool a8) ∧ w9.cell? ⟨p, 9, none⟩ = some (.string a9) ∧ w9.cell? ⟨p, 10, none⟩ = some (.slice la na qa) ∧ w9.cell? ⟨x, 0, none⟩ = some (.int .i64 a0) ∧ w9.cell? ⟨x, 1, none⟩ = some (.int .i64 a1) ∧ w9.cell? ⟨x, 2, none⟩ = some (.int .i64 a2) ∧ w9.cell? ⟨x, 3, none⟩ = some (.int .i64 a3) ∧ w9.cell? ⟨x, 4, none⟩ = some (.int .u64 a4) ∧ w9.cell? ⟨x, 5, none⟩ = some (.int .i64 a5) ∧ w9.cell? ⟨x, 6, none⟩ = some (.int .i64 a6) ∧ w9.cell? ⟨x, 7, none⟩ = some (.int .i64 a7) ∧ w9.cell? ⟨x, 8, none⟩ = some (.bool a8) ∧ w9.cell? ⟨x, 9, none⟩ = some (.string a9) ∧ w9.cell? ⟨x, 10, none⟩ = some (.slice oa na ua)) w9) := Lib.hid fun w0 w9 hg ⟨h, q0, q1, q2, q3, q4, q5, q6, q7, q8, q9, q10, q11, q12, q13, q14, q15, q16, q17, q18, q19, q20, q21⟩ => ⟨h.trans hg, hg.cell q0, hg.cell q1, hg.cell q2, hg.cell q3, hg.cell q4, hg.cell q5, hg.cell q6, hg.cell q7, hg.cell q8, hg.cell q9, hg.cell q10, hg.cell q11, hg.cell q12, hg.cell q13, hg.cell q14, hg.cell q15, hg.cell q16, hg.cell q17, hg.cell q18, hg.cell q19, hg.cell q20, hg.cell q21⟩
    have HS0 := And.intro (Gr.refl wz) (And.intro (k0) (And.intro (k1) (And.intro (k2) (And.intro (k3) (And.intro (k4) (And.intro (k5) (And.intro (k6) (And.intro (k7) (And.intro (k8) (And.intro (k9) (And.intro (k10) (And.intro (j0) (And.intro (j1) (And.intro (j2) (And.intro (j3) (And.intro (j4) (And.intro (j5) (And.intro (j6) (And.intro (j7) (And.intro (j8) (And.intro (j9) (j10))))))))))))))))))))))
    clear k0 k1 k2 k3 k4 k5 k6 k7 k8 k9 k10 j0 j1 j2 j3 j4 j5 j6 j7 j8 j9 j10
    refine wp_region_held_drew (S := (fun w9 => Gr wz w9 ∧ w9.cell? ⟨p, 0, none⟩ = some (.int .i64 a0) ∧ w9.cell? ⟨p, 1, none⟩ = some (.int .i64 a1) ∧ w9.cell? ⟨p, 2, none⟩ = some (.int .i64 a2) ∧ w9.cell? ⟨p, 3, none⟩ = some (.int .i64 a3) ∧ w9.cell? ⟨p, 4, none⟩ = some (.int .u64 a4) ∧ w9.cell? ⟨p, 5, none⟩ = some (.int .i64 a5) ∧ w9.cell? ⟨p, 6, none⟩ = some (.int .i64 a6) ∧ w9.cell? ⟨p, 7, none⟩ = some (.int .i64 a7) ∧ w9.cell? ⟨p, 8, none⟩ = some (.bool a8) ∧ w9.cell? ⟨p, 9, none⟩ = some (.string a9) ∧ w9.cell? ⟨p, 10, none⟩ = some (.slice la na qa) ∧ w9.cell? ⟨x, 0, none⟩ = some (.int .i64 a0) ∧ w9.cell? ⟨x, 1, none⟩ = some (.int .i64 a1) ∧ w9.cell? ⟨x, 2, none⟩ = some (.int .i64 a2) ∧ w9.cell? ⟨x, 3, none⟩ = some (.int .i64 a3) ∧ w9.cell? ⟨x, 4, none⟩ = some (.int .u64 a4) ∧ w9.cell? ⟨x, 5, none⟩ = some (.int .i64 a5) ∧ w9.cell? ⟨x, 6, none⟩ = some (.int .i64 a6) ∧ w9.cell? ⟨x, 7, none⟩ = some (.int .i64 a7) ∧ w9.cell? ⟨x, 8, none⟩ = some (.bool a8) ∧ w9.cell? ⟨x, 9, none⟩ = some (.string a9) ∧ w9.cell? ⟨x, 10, none⟩ = some (.slice oa na ua))) (by kernel_rfl) ?inva (fun h0 => ?_)
    case inva => ((try dsimp only); (exact HX.out _ _ (Gr.refl _).drew HS0))
    refine wpAnyH_take (i := 0) (oi := { dst := some 22, op := Go.Op.load 69 (Go.Operand.tmp 3), type := 69, pos := "law.go:74", after := #[], guard := none }) (v := ?va1) rfl (by kernel_rfl) (by kernel_rfl) (by kernel_rfl) (fun _ _ _ h => h) (Or.inl ⟨by rfl, ?ra1⟩) (by assumption) ?_
    case ra1 => (intro w hSw; (try dsimp only at hSw); (go_simp <;> with_reducible rfl))
    try simp only [Act.put, List.setIfInBounds_toArray, List.set_cons_zero, List.set_cons_succ]
    refine wpAnyH_take (i := 2) (oi := { dst := some 24, op := Go.Op.load 81 (Go.Operand.tmp 1), type := 81, pos := "law.go:74", after := #[], guard := none }) (v := ?va2) rfl (by kernel_rfl) (by kernel_rfl) (by kernel_rfl) (fun _ _ _ h => h) (Or.inl ⟨by rfl, ?ra2⟩) (by assumption) ?_
    case ra2 => (intro w hSw; (try dsimp only at hSw); (go_simp <;> with_reducible rfl))
    try simp only [Act.put, List.setIfInBounds_toArray, List.set_cons_zero, List.set_cons_succ]
    refine wpAnyH_ready (rs := [1]) (by kernel_rfl) (by simp) ?_
    refine AllReadyH.cons (o := { dst := some 23, op := Go.Op.call { callee := Go.Callee.value (Go.Operand.func 43), args := #[Go.Operand.tmp 22], argTypes := #[69] }, type := 9, pos := "law.go:74", after := #[{ on := 0, ground := Go.Ground.data }], guard := none }) rfl (fun K hK => ?_) AllReadyH.nil
    go_simp
    go_at_call 43
    refine (HBY.out _ _ _ (HRO.out.gr (h0).1)).mono ?_
    rintro e w9 ⟨rfl, hgN⟩
    first | refine hK.out _ _ ?sa3 (fun h3 => ?_) | (go_wp2_with fail; refine hK.out _ _ ?sa3 (fun h3 => ?_))
    case sa3 => ((try dsimp only); exact HX.out _ _ hgN h0)
    clear hK K h0
    try simp only [Act.put, List.setIfInBounds_toArray, List.set_cons_zero, List.set_cons_succ]
    refine wpAnyH_ready (rs := [3]) (by kernel_rfl) (by simp) ?_
    refine AllReadyH.cons (o := { dst := some 25, op := Go.Op.call { callee := Go.Callee.value (Go.Operand.func 44), args := #[Go.Operand.tmp 24], argTypes := #[81] }, type := 9, pos := "law.go:74", after := #[{ on := 2, ground := Go.Ground.data }, { on := 1, ground := Go.Ground.chain }], guard := none }) rfl (fun K hK => ?_) AllReadyH.nil
    go_simp
    go_at_call 44
    refine (HRB.out _ _ _ (HRA.out.gr (h3).1)).mono ?_
    rintro e w9 ⟨rfl, hgN⟩
    first | refine hK.out _ _ ?sa4 (fun h4 => ?_) | (go_wp2_with fail; refine hK.out _ _ ?sa4 (fun h4 => ?_))
    case sa4 => ((try dsimp only); exact HX.out _ _ hgN h3)
    clear hK K h3
    try simp only [Act.put, List.setIfInBounds_toArray, List.set_cons_zero, List.set_cons_succ]
    refine wpAnyH_take (i := 4) (oi := { dst := some 26, op := Go.Op.binOp Go.BinOp.eql 9 (Go.Operand.tmp 23) (Go.Operand.tmp 25) 9, type := 4, pos := "law.go:74", after := #[{ on := 1, ground := Go.Ground.data }, { on := 3, ground := Go.Ground.data }], guard := none }) (v := (.bool true)) rfl (by kernel_rfl) (by kernel_rfl) (by kernel_rfl) (fun _ _ _ h => h) (Or.inl ⟨by rfl, ?ra5⟩) (by assumption) ?_
    case ra5 => (intro w hSw; (try dsimp only at hSw); go_simp; first | done | rfl | simp)
    try simp only [Act.put, List.setIfInBounds_toArray, List.set_cons_zero, List.set_cons_succ]
    refine wpAnyH_take (i := 5) (oi := { dst := some 2, op := Go.Op.assign (Go.Operand.tmp 26), type := 4, pos := "law.go:74", after := #[{ on := 4, ground := Go.Ground.data }, { on := 3, ground := Go.Ground.chain }, { on := 0, ground := Go.Ground.phase }, { on := 1, ground := Go.Ground.phase }, { on := 2, ground := Go.Ground.phase }, { on := 3, ground := Go.Ground.phase }, { on := 4, ground := Go.Ground.phase }], guard := none }) (v := ?va6) rfl (by kernel_rfl) (by kernel_rfl) (by kernel_rfl) (fun _ _ _ h => h) (Or.inl ⟨by rfl, ?ra6⟩) (by assumption) ?_
    case ra6 => (intro w hSw; (try dsimp only at hSw); (go_simp <;> with_reducible rfl))
    try simp only [Act.put, List.setIfInBounds_toArray, List.set_cons_zero, List.set_cons_succ]
    refine wpAnyH_done (by kernel_rfl) ?_ _
    have G9 := Lib.hid (h4).1
    clear h4
    go_wp2
    go_ret
    exact ⟨rfl, HG.out.trans G9.out⟩
  · have h0' : (cka != 0) = true := by simp [h0]
    have HE := Lib.hid (HE0.out h0)
    rw [HE.out] at HBY
    clear HE HE0 h0
    have j0 := HBX.out.cell (i := 0) rfl
    have j1 := HBX.out.cell (i := 1) rfl
    have j2 := HBX.out.cell (i := 2) rfl
    have j3 := HBX.out.cell (i := 3) rfl
    have j4 := HBX.out.cell (i := 4) rfl
    have j5 := HBX.out.cell (i := 5) rfl
    have j6 := HBX.out.cell (i := 6) rfl
    have j7 := HBX.out.cell (i := 7) rfl
    have j8 := HBX.out.cell (i := 8) rfl
    have j9 := HBX.out.cell (i := 9) rfl
    have j10 := HBX.out.cell (i := 10) rfl
    go_wp2_with fail
    refine (HBY.out _ _ _ HRO.out).mono ?_
    rintro e w9 ⟨rfl, hg⟩
    replace HG := Lib.hid (HG.out.trans hg)
    clear hg j0 j1 j2 j3 j4 j5 j6 j7 j8 j9 j10
    go_wp2
    go_ret
    exact ⟨rfl, HG.out⟩
end Go.Proofs.Ytihhfdkcggnjpaa
