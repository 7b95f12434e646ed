import Derived.Test.YtihhfdkcggnjpaaF10t
import Derived.Test.YtihhfdkcggnjpaaK7
import Derived.Test.YtihhfdkcggnjpaaF10l
import Derived.WalkKit
import Derived.ProofKit
import Derived.LoopTactic
import Derived.Outline
import Derived.WalkSpells
import Derived.WalkLawsBesides
import Derived.Lib.Hide
import Derived.Deep.LoopGhost
import Derived.Deep.QuietTactic
import Derived.BigQuiet
import Derived.ShutString
import Derived.IntWalk
import Derived.Deep.MidRow
import Derived.Deep.RegionHeld3
namespace Go.Proofs.Ytihhfdkcggnjpaa
open Go.ChangeShapes Go.WideShapes Go.ChangeAt Go.RowKit
open Enc Bal
set_option linter.unusedVariables false
set_option linter.unusedSimpArgs false
theorem app_none (s : ByteArray) : s ++ (⟨#[]⟩ : ByteArray) = s := eB (by rw [bytesOf_app]; simp [bytesOf])
theorem Mg.bytes_size {m : Mg} (hm : m.Sm) (hc : m.check = 0) : m.bytes.size ≤ 200008 := by
  have := Mg.inside_size hm hc
  rw [Mg.bytes_eq hm hc, rframe_size]; omega
theorem parse_back {m : Mg} (hm : m.Sm) (hc : m.check = 0) (w : World) :
    Calls Try.prog 46 #[.string m.bytes] w fun e w' => ∃ a q, e = .returned (.tuple #[.agg #[.int .i64 m.kd, .int .i64 m.frm, .int .i64 m.tt, .int .i64 m.sub, .int .u64 m.c, .int .i64 m.n, .int .i64 m.slot, .int .i64 m.time, .bool m.ok, .string m.text, .slice a m.L.length q], .int .i64 0]) ∧ Gr w w' ∧ Hid (ORow 159 w' m.L a q) := by
  have hz := Mg.bytes_size hm hc
  have hp := parse_bytes hm hc ⟨#[]⟩
  rw [if_neg (by decide), app_none] at hp
  have := parse10_any m.bytes (by omega) w
  rw [hp] at this
  exact this
theorem parse_long {m : Mg} (hm : m.Sm) (hc : m.check = 0) (w : World) :
    Calls Try.prog 46 #[.string (m.bytes ++ ⟨#[120]⟩)] w fun e w' => ∃ a q, e = .returned (.tuple #[.agg #[.int .i64 0, .int .i64 0, .int .i64 0, .int .i64 0, .int .u64 0, .int .i64 0, .int .i64 0, .int .i64 0, .bool false, .string ⟨#[]⟩, .slice a 0 q], .int .i64 4]) ∧ Gr w w' := by
  have hz := Mg.bytes_size hm hc
  have hp := parse_bytes hm hc ⟨#[120]⟩
  rw [if_pos (by decide)] at hp
  have := parse10_any (m.bytes ++ ⟨#[120]⟩) (by rw [ByteArray.size_append]; show m.bytes.size + 1 ≤ _; omega) w
  rw [hp] at this
  refine this.mono ?_
  rintro e w' ⟨a, q, h, hg, _⟩
  exact ⟨a, q, h, hg⟩
set_option maxRecDepth 100000 in
set_option maxHeartbeats 8000000 in
theorem msgBack_walk (a0 a1 a2 a3 a4 a5 a6 a7 : Int) (a8 : Bool) (at_ : ByteArray) (aL : List E) (va : Option Addr) (ca0 : Nat) (w : World) (ha : (⟨a0, a1, a2, a3, a4, a5, a6, a7, a8, at_, aL⟩ : Mg).Wf ∧ ERow w va aL ∧ aL.length ≤ ca0) :
    Calls Try.prog 7 #[.agg #[.int .i64 a0, .int .i64 a1, .int .i64 a2, .int .i64 a3, .int .u64 a4, .int .i64 a5, .int .i64 a6, .int .i64 a7, .bool a8, .string at_, .slice va aL.length ca0]] w fun e w' => e = .returned (.bool true) ∧ Gr w w' := by
  obtain ⟨ha1, ha2, ha3⟩ := ha
  have HRT := Lib.hid fun w9 (hg : Gr w w9) => right10_any a0 a1 a2 a3 a4 a5 a6 a7 a8 at_ aL w9 ha1 (ha2.gr hg) ha3
  clear ha1 ha2 ha3
  go_enter Try.func7, Try.ntmps7
  have HG0 := Lib.hid ((Gr.refl w).alloc (.cells #[.int .i64 a0, .int .i64 a1, .int .i64 a2, .int .i64 a3, .int .u64 a4, .int .i64 a5, .int .i64 a6, .int .i64 a7, .bool a8, .string at_, .slice va aL.length ca0] 81))
  have HBA := Lib.hid (Blk.new w #[.int .i64 a0, .int .i64 a1, .int .i64 a2, .int .i64 a3, .int .u64 a4, .int .i64 a5, .int .i64 a6, .int .i64 a7, .bool a8, .string at_, .slice va aL.length ca0] 81)
  go_wp2_with fail
  refine (awake10 _).mono ?_
  rintro e wz ⟨rfl, hg1⟩
  replace HG0 := Lib.hid (HG0.out.trans hg1)
  replace HBA := Lib.hid (HBA.out.gr hg1)
  clear hg1
  have q0 := HBA.out.cell (i := 0) rfl
  have q1 := HBA.out.cell (i := 1) rfl
  have q2 := HBA.out.cell (i := 2) rfl
  have q3 := HBA.out.cell (i := 3) rfl
  have q4 := HBA.out.cell (i := 4) rfl
  have q5 := HBA.out.cell (i := 5) rfl
  have q6 := HBA.out.cell (i := 6) rfl
  have q7 := HBA.out.cell (i := 7) rfl
  have q8 := HBA.out.cell (i := 8) rfl
  have q9 := HBA.out.cell (i := 9) rfl
  have q10 := HBA.out.cell (i := 10) rfl
  generalize hpp : w.heap.size = p at *
  have HWP := Lib.hid (show w.heap.size ≤ p from Nat.le_of_eq hpp)
  clear hpp
  go_wp2_with fail
  refine (HRT.out _ HG0.out).mono ?_
  rintro e w1 ⟨k, ms1, la, qa, rfl, HM1, HK, HRA, hg⟩
  replace HG0 := Lib.hid (HG0.out.trans hg)
  replace HBA := Lib.hid (HBA.out.gr hg)
  clear hg q0 q1 q2 q3 q4 q5 q6 q7 q8 q9 q10 HRT
  have hk1 := HK.out.1
  have hk2 := HK.out.2
  have hl1 : k.L.length ≤ 1000 := by have := hk1.len; omega
  have HOW := Lib.hid fun aa q w9 => own_mg (a := aa) (q := q) k hl1 w9
  have HBY := Lib.hid fun aa q w9 => bytesX_mg (a := aa) (q := q) k hk1 w9
  have HRB := Lib.hid fun aa q w9 => refBytes_mg (a := aa) (q := q) k hk1 hk2 w9
  have HP1 := Lib.hid fun w9 => parse_back hk1 hk2 w9
  have HP2 := Lib.hid fun w9 => parse_long hk1 hk2 w9
  have HSM := Lib.hid fun o1 o2 p1 p2 w9 h1 h2 => same_mg (o1 := o1) (o2 := o2) (p1 := p1) (p2 := p2) k k hl1 hl1 w9 h1 h2
  have hbz := Mg.bytes_size hk1 hk2
  rw [Mg.same_self] at HSM
  generalize k.bytes = by_ at *
  obtain ⟨k0, k1, k2, k3, k4, k5, k6, k7, k8, kt, kL⟩ := k
  simp only at HOW HBY HRB HP1 HSM HM1 HRA
  clear hk1 hk2 HK hl1
  obtain ⟨nl, hnl⟩ : ∃ n, kL.length = n := ⟨_, rfl⟩
  simp only [hnl] at HOW HBY HRB HP1 HSM HM1
  clear hnl
  obtain ⟨ms, hms, hml, hT, hO, hgr, hBl⟩ := blk_put HBA.out #[.int .i64 k0, .int .i64 k1, .int .i64 k2, .int .i64 k3, .int .u64 k4, .int .i64 k5, .int .i64 k6, .int .i64 k7, .bool k8, .string kt, .slice la nl qa] rfl (eleven_one _ _ _ _ _ _ _ _ _ _ _ _ _)
  obtain rfl : ms = ms1 := by rw [HM1.out]; have := congrArg (fun v => match v with | Value.agg a => a.toList | _ => []) hms; simpa using this.symm
  have HG := Lib.hid (gr_put HG0.out hgr HWP.out)
  replace HRA := Lib.hid (HRA.out.put HBA.out (by decide) hgr)
  replace HBA := Lib.hid hBl
  have HML := Lib.hid hml
  have HTT := Lib.hid hT
  have HOO := Lib.hid hO
  clear hms hml hT hO hgr hBl HM1 HG0
  have q0 := HBA.out.cell (i := 0) rfl
  have q1 := HBA.out.cell (i := 1) rfl
  have q2 := HBA.out.cell (i := 2) rfl
  have q3 := HBA.out.cell (i := 3) rfl
  have q4 := HBA.out.cell (i := 4) rfl
  have q5 := HBA.out.cell (i := 5) rfl
  have q6 := HBA.out.cell (i := 6) rfl
  have q7 := HBA.out.cell (i := 7) rfl
  have q8 := HBA.out.cell (i := 8) rfl
  have q9 := HBA.out.cell (i := 9) rfl
  have q10 := HBA.out.cell (i := 10) rfl
  go_wp2_with (first | (refine wpList_store_mid rfl 81 (.tmp 1) (.tmp 12) (by rfl) p 0 ms.toArray (by rfl) (by rfl) HTT.out (by rw [HML.out]; kernel_rfl) HOO.out ?_))
  clear HML HTT HOO
  generalize w1.setCells p 0 ms = w2 at *
  refine (HOW.out _ _ _ HRA.out).mono ?_
  rintro e w3 ⟨oa, ua, rfl, HRO, hg⟩
  clear q0 q1 q2 q3 q4 q5 q6 q7 q8 q9 q10 HOW
  have hA := (Gr.refl w3).alloc (.cells #[.int .i64 k0, .int .i64 k1, .int .i64 k2, .int .i64 k3, .int .u64 k4, .int .i64 k5, .int .i64 k6, .int .i64 k7, .bool k8, .string kt, .slice oa nl ua] 69)
  replace HG := Lib.hid ((HG.out.trans hg).trans hA)
  replace HRA := Lib.hid ((HRA.out.gr hg).gr hA)
  replace HBA := Lib.hid ((HBA.out.gr hg).gr hA)
  replace HRO := Lib.hid (HRO.out.gr hA)
  have HBX := Lib.hid (Blk.new w3 #[.int .i64 k0, .int .i64 k1, .int .i64 k2, .int .i64 k3, .int .u64 k4, .int .i64 k5, .int .i64 k6, .int .i64 k7, .bool k8, .string kt, .slice oa nl ua] 69)
  clear hA hg
  have j0 := HBX.out.cell (i := 0) rfl
  have j1 := HBX.out.cell (i := 1) rfl
  have j2 := HBX.out.cell (i := 2) rfl
  have j3 := HBX.out.cell (i := 3) rfl
  have j4 := HBX.out.cell (i := 4) rfl
  have j5 := HBX.out.cell (i := 5) rfl
  have j6 := HBX.out.cell (i := 6) rfl
  have j7 := HBX.out.cell (i := 7) rfl
  have j8 := HBX.out.cell (i := 8) rfl
  have j9 := HBX.out.cell (i := 9) rfl
  have j10 := HBX.out.cell (i := 10) rfl
  go_wp2_with fail
  generalize w3.alloc (.cells #[.int .i64 k0, .int .i64 k1, .int .i64 k2, .int .i64 k3, .int .u64 k4, .int .i64 k5, .int .i64 k6, .int .i64 k7, .bool k8, .string kt, .slice oa nl ua] 69) = w4 at *
  generalize w3.heap.size = x at *
  refine (HBY.out _ _ _ HRO.out).mono ?_
  rintro e w5 ⟨rfl, hg⟩
  clear j0 j1 j2 j3 j4 j5 j6 j7 j8 j9 j10 HBY
  replace HG := Lib.hid (HG.out.trans hg)
  replace HRA := Lib.hid (HRA.out.gr hg)
  replace HRO := Lib.hid (HRO.out.gr hg)
  replace HBA := Lib.hid (HBA.out.gr hg)
  replace HBX := Lib.hid (HBX.out.gr hg)
  clear hg
  go_wp2_with fail
  refine (HP1.out _).mono ?_
  rintro e w6 ⟨ya, yq, rfl, hg, HRY⟩
  clear HP1
  have hA := (Gr.refl w6).alloc (.cells #[.int .i64 k0, .int .i64 k1, .int .i64 k2, .int .i64 k3, .int .u64 k4, .int .i64 k5, .int .i64 k6, .int .i64 k7, .bool k8, .string kt, .slice ya nl yq] 69)
  replace HG := Lib.hid ((HG.out.trans hg).trans hA)
  replace HRA := Lib.hid ((HRA.out.gr hg).gr hA)
  replace HRO := Lib.hid ((HRO.out.gr hg).gr hA)
  replace HBA := Lib.hid ((HBA.out.gr hg).gr hA)
  replace HBX := Lib.hid ((HBX.out.gr hg).gr hA)
  replace HRY := Lib.hid (HRY.out.gr hA)
  have HBY := Lib.hid (Blk.new w6 #[.int .i64 k0, .int .i64 k1, .int .i64 k2, .int .i64 k3, .int .u64 k4, .int .i64 k5, .int .i64 k6, .int .i64 k7, .bool k8, .string kt, .slice ya nl yq] 69)
  clear hA hg
  have hcat : (by_ ++ (⟨#[120]⟩ : ByteArray)).size ≤ 200009 := by rw [ByteArray.size_append]; show by_.size + 1 ≤ _; omega
  go_wp2_with fail
  generalize w6.alloc (.cells #[.int .i64 k0, .int .i64 k1, .int .i64 k2, .int .i64 k3, .int .u64 k4, .int .i64 k5, .int .i64 k6, .int .i64 k7, .bool k8, .string kt, .slice ya nl yq] 69) = w7 at *
  generalize w6.heap.size = y at *
  trace_state
  refine (HP2.out _).mono ?_
  rintro e w8 ⟨za, zq, rfl, hg⟩
  clear HP2
  have hA := (Gr.refl w8).alloc (.cells #[.int .i64 0, .int .i64 0, .int .i64 0, .int .i64 0, .int .u64 0, .int .i64 0, .int .i64 0, .int .i64 0, .bool false, .string ⟨#[]⟩, .slice za 0 zq] 69)
  replace HG := Lib.hid ((HG.out.trans hg).trans hA)
  replace HRA := Lib.hid ((HRA.out.gr hg).gr hA)
  replace HRO := Lib.hid ((HRO.out.gr hg).gr hA)
  replace HBA := Lib.hid ((HBA.out.gr hg).gr hA)
  replace HBX := Lib.hid ((HBX.out.gr hg).gr hA)
  replace HRY := Lib.hid ((HRY.out.gr hg).gr hA)
  replace HBY := Lib.hid ((HBY.out.gr hg).gr hA)
  clear hA hg
  have j0 := HBX.out.cell (i := 0) rfl
  have j1 := HBX.out.cell (i := 1) rfl
  have j2 := HBX.out.cell (i := 2) rfl
  have j3 := HBX.out.cell (i := 3) rfl
  have j4 := HBX.out.cell (i := 4) rfl
  have j5 := HBX.out.cell (i := 5) rfl
  have j6 := HBX.out.cell (i := 6) rfl
  have j7 := HBX.out.cell (i := 7) rfl
  have j8 := HBX.out.cell (i := 8) rfl
  have j9 := HBX.out.cell (i := 9) rfl
  have j10 := HBX.out.cell (i := 10) rfl
  have i0 := HBY.out.cell (i := 0) rfl
  have i1 := HBY.out.cell (i := 1) rfl
  have i2 := HBY.out.cell (i := 2) rfl
  have i3 := HBY.out.cell (i := 3) rfl
  have i4 := HBY.out.cell (i := 4) rfl
  have i5 := HBY.out.cell (i := 5) rfl
  have i6 := HBY.out.cell (i := 6) rfl
  have i7 := HBY.out.cell (i := 7) rfl
  have i8 := HBY.out.cell (i := 8) rfl
  have i9 := HBY.out.cell (i := 9) rfl
  have i10 := HBY.out.cell (i := 10) rfl
  go_wp2_with fail
  generalize w8.alloc (.cells #[.int .i64 0, .int .i64 0, .int .i64 0, .int .i64 0, .int .u64 0, .int .i64 0, .int .i64 0, .int .i64 0, .bool false, .string ⟨#[]⟩, .slice za 0 zq] 69) = w9 at *
  generalize w8.heap.size = z at *
  refine (HSM.out _ _ _ _ _ HRO.out HRY.out).mono ?_
  rintro e wa ⟨rfl, hg⟩
  clear HSM j0 j1 j2 j3 j4 j5 j6 j7 j8 j9 j10 i0 i1 i2 i3 i4 i5 i6 i7 i8 i9 i10
  replace HG := Lib.hid (HG.out.trans hg)
  replace HRA := Lib.hid (HRA.out.gr hg)
  replace HBA := Lib.hid (HBA.out.gr hg)
  clear hg
  have q0 := HBA.out.cell (i := 0) rfl
  have q1 := HBA.out.cell (i := 1) rfl
  have q2 := HBA.out.cell (i := 2) rfl
  have q3 := HBA.out.cell (i := 3) rfl
  have q4 := HBA.out.cell (i := 4) rfl
  have q5 := HBA.out.cell (i := 5) rfl
  have q6 := HBA.out.cell (i := 6) rfl
  have q7 := HBA.out.cell (i := 7) rfl
  have q8 := HBA.out.cell (i := 8) rfl
  have q9 := HBA.out.cell (i := 9) rfl
  have q10 := HBA.out.cell (i := 10) rfl
  go_wp2_with fail
  refine (HRB.out _ _ _ HRA.out).mono ?_
  rintro e wb ⟨rfl, hg⟩
  replace HG := Lib.hid (HG.out.trans hg)
  clear hg HRB
  go_wp2
  go_ret
  exact ⟨by first | rfl | simp, HG.out⟩
  end Go.Proofs.Ytihhfdkcggnjpaa
