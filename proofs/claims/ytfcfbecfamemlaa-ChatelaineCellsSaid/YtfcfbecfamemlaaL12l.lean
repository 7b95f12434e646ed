import Derived.Test.YtfcfbecfamemlaaL12k
import Derived.WalkKit
import Derived.ProofKit
import Derived.LoopTactic
import Derived.Outline
import Derived.WalkSpells
import Derived.WalkLawsBesides
import Derived.Lib.Hide
import Derived.Deep.LoopGhost
import Derived.Deep.QuietTactic
import Derived.BigQuiet
import Derived.ShutString
import Derived.IntWalk
import Derived.Lib.MinMax
import Derived.Deep.RegionWith
import Derived.Deep.RegionHeld3
namespace Go.Proofs.Ytfcfbecfamemlaa
open Go.ChangeShapes Go.WideShapes Go.ChangeAt Go.RowKit
open Dk Enc
set_option linter.unusedVariables false
set_option linter.unusedSimpArgs false
theorem okO {Q Q' : D} {f g v : Nat} {t : ByteArray} {w : World} {d : Nat} (h : openM Q f g = (Q', 0, v, t)) (hd : DkIs w d Q) : Q'.Ok := by
  have hok := hd.ok
  have : (openM Q f g).1.Ok := by
    unfold openM
    split
    · exact hok
    · split
      · unfold finish; split <;> exact rest2_ok hok _ _ _ _
      · split
        · exact hok
        · unfold finish; split <;> exact rest2_ok hok _ _ _ _
  rwa [h] at this
set_option maxRecDepth 100000 in
set_option maxHeartbeats 4000000 in
theorem keeps_walk (ss : List ByteArray) (a : Option Addr) (cap : Nat) (fl : Int) (C : List Int) (ca : Option Addr) (ccap : Nat) (w : World) (hst : Strs w a ss) (wf : (Lit.int .i64 fl).wf = true) (hC : Ints w ca C) (hcap : C.length ≤ ccap) :
    Calls Try.prog 6 #[.slice a ss.length cap, .int .i64 fl, .slice ca C.length ccap] w fun e w' => e = .returned (.bool true) ∧ Gr w w' := by
  obtain ⟨Q0, ho, hcalm⟩ := (calm_new 100 10000 0).opens (new_ok 10000 (by decide)) (by decide) (by decide) (by decide) (by decide)
  have HO0 := Lib.hid ho
  have HCA0 := Lib.hid hcalm
  have HB := Lib.hid (bd_new 10000 100)
  have HST := Lib.hid hst
  have hfb := bounds_i64 wf
  have hfw : (Lit.int .i64 (max 0 (min fl 60))).wf = true := by
    simp [Lit.wf, IntKind.min, IntKind.max, IntKind.signed, IntKind.bits]
    omega
  have hCl := hC.1
  clear ho hcalm hst
  by_cases h6 : 6 < C.length
  · have h6l : (C.take 6).length = 6 := by simp; omega
    obtain ⟨CL, hCL⟩ : ∃ CL, C.take 6 = CL := ⟨_, rfl⟩
    have HI : Hid (Ints w ca CL) := Lib.hid (by rw [← hCL]; exact hC.take 6)
    rw [hCL] at h6l
    have CR : Hid (∀ (d : Nat) (Q : D) (w9 : World), DkIs w9 d Q → Ints w9 ca CL → (CL = [] ∨ Off ca d) → Calls Try.prog 20 #[.pointer (some ⟨d, 0, none⟩), .slice ca 6 ccap] w9 fun e w' => e = .returned (.tuple #[]) ∧ DkIs w' d (crash Q CL) ∧ Sole d w9 w') := Lib.hid fun d Q w9 h hi ho => by
      have h9 := crash_any CL ca ccap w9 hi (by omega) ho h
      rwa [h6l] at h9
    clear hCL hC
    have hcc : 6 ≤ ccap := by omega
    go_enter Try.func6, Try.ntmps6
    go_wp2_with fail
    refine (awake12 w).mono ?_
    rintro e w1 ⟨rfl, hg1⟩
    have HG1 := Lib.hid hg1
    clear hg1
    have hst := HST.out
    have hsl := hst.2.1
    clear hst
    go_wp2_with fail
    refine (new_any 10000 (by decide) _).mono ?_
    rintro e w2 ⟨d, rfl, hbe, hd2, hg2⟩
    have HD2 := Lib.hid hd2
    have HG2 := Lib.hid (HG1.out.trans hg2)
    have HDW := Lib.hid (show w.heap.size ≤ d by have := HG1.out.size; omega)
    have HOF : Hid (CL = [] ∨ Off ca d) := Lib.hid (by
      rcases HI.out.2.2 with h | ⟨b9, o9, rfl, hc9⟩
      · exact .inl h
      · rcases Nat.eq_zero_or_pos CL.length with h | h
        · exact .inl (List.length_eq_zero_iff.1 h)
        · exact .inr (fun bb off e => by cases e; have := cell_lt (hc9 0 h); have := HDW.out; omega))
    clear hbe hd2 hg2
    go_wp2_with fail
    refine (open_to (B := 100) (f := 0) (g := 1) _ HD2.out HB.out (by decide) rfl (by decide) HO0.out).mono ?_
    rintro e w3 ⟨c, rfl, hcw, hcl, hd3, hs3⟩
    have HC3 := Lib.hid hcl
    have HD3 := Lib.hid hd3
    have HG3 := Lib.hid (hs3.gr HG2.out HDW.out)
    have HCW := Lib.hid (show w.heap.size ≤ c from Nat.le_trans HG2.out.size hcw)
    have HCD := Lib.hid hcl.ne
    clear hcw hcl hd3 hs3
    go_wp2_with fail
    refine (fail_any11 (max 0 (min fl 60)) hfw _ HD3.out).mono ?_
    rintro e w4 ⟨rfl, hd4, hs4⟩
    have HD4 := Lib.hid hd4
    have HG4 := Lib.hid (hs4.gr HG3.out HDW.out)
    have HC4 := Lib.hid (HC3.out.sole hs4 HCD.out)
    have HCA4 := Lib.hid (HCA0.out.calm0.fails (max 0 (min fl 60)))
    clear hd4 hs4
    go_wp2
    go_loopw [11, 12, 13] (fun lv nv i wr => ∃ (k : Nat) (Q : D) (t : ByteArray), k ≤ ss.length ∧ k ≤ 12 ∧ i = .int .i64 (k : Nat) ∧ lv = .string t ∧ nv = .string t ∧ t.size ≤ 40 ∧ Hid (ClIs wr c d 0 k) ∧ Hid (DkIs wr d Q) ∧ Hid (Calm0 100 10000 0 k t Q) ∧ Hid (Gr w wr)) (fun _ _ i _ => ss.length - (intOf i).toNat)
    case atStart => exact ⟨0, _, ⟨#[]⟩, by omega, by omega, rfl, rfl, rfl, by decide, HC4, HD4, HCA4, HG4⟩
    case round =>
      clear HC3 HD3 HG3 HO0 HC4 HD4 HCA4 HG4 HCA0
      obtain ⟨k, Q, t, hk, hk12, rfl, rfl, rfl, ht40, HC, HD, HCA, HG⟩ := hrel
      by_cases hlt : k < ss.length
      · by_cases h12 : k < 12
        · obtain ⟨b1, o1, rfl, _, hc1, hz1⟩ := HST.out.at k hlt
          replace hc1 := HG.out.cell hc1
          generalize ss[k] = s0 at *
          have CU := Lib.hid (fun w => cut_any s0 40 w hz1 (by decide))
          have hcs := cutB_le s0 40
          obtain ⟨s, hs⟩ : ∃ s, cutB s0 40 = s := ⟨_, rfl⟩
          rw [hs] at CU hcs
          clear hs
          have hs40 : s.size ≤ 40 := by omega
          clear hcs
          obtain ⟨Q1, -, hw1⟩ := HCA.out.writes (u := s) HD.out.ok (by decide) (by decide) (by omega)
          go_wp2_with fail
          refine (CU.out _).mono ?_
          rintro e w4 ⟨rfl, rfl⟩
          clear hc1
          rcases hw1 with ⟨hw1, hcalm1⟩ | ⟨hw1, hbd1, hrm1, hmid1⟩
          · have HW1 := Lib.hid hw1
            have HCA1 := Lib.hid hcalm1
            clear hw1 hcalm1
            go_wp2_with fail
            refine (write_to _ HD.out HC.out (by decide) (by omega) (by omega) HW1.out).mono ?_
            rintro e w5 ⟨rfl, hd5, hc5, hs5⟩
            have HD5 := Lib.hid hd5
            have HC5 : Hid (ClIs w5 c d 0 (k + 1)) := Lib.hid hc5
            have HG5 := Lib.hid (hs5.gr HG.out HCW.out HDW.out)
            clear hd5 hc5 hs5
            go_wp2
            go_roundw
            case rel => exact ⟨k + 1, Q1, s, by omega, by omega, by go_num, rfl, rfl, hs40, HC5, HD5, HCA1, HG5⟩
            case measure => simp [intOf]; omega
          · have HW1 := Lib.hid hw1
            have HBD9 := Lib.hid (And.intro hbd1 (And.intro hrm1 hmid1))
            clear hw1 hbd1 hrm1 hmid1
            go_wp2_with fail
            refine (write_to _ HD.out HC.out (by decide) (by omega) (by omega) HW1.out).mono ?_
            rintro e w5 ⟨rfl, hd5, hc5, hs5⟩
            have HD9 := Lib.hid hd5
            have HG9 := Lib.hid (hs5.gr HG.out HCW.out HDW.out)
            clear hd5 hc5 hs5
            go_wp2_with fail
            refine (CR.out _ _ _ HD9.out (HI.out.gr HG9.out) HOF.out).mono ?_
            rintro e wa ⟨rfl, hda, hsa⟩
            have HDa := Lib.hid hda
            have HGa := Lib.hid (hsa.gr HG9.out HDW.out)
            clear hda hsa
            obtain ⟨Qo, V, T, ho, hw, hbo, Qp, hp⟩ := open_twice (t1 := s) (crash_ok HD9.out.ok CL) (crash_bd CL HBD9.out.1) (by show 5 * 100 ≤ Q1.room; rw [HBD9.out.2.1]; decide) rfl (f := 0) (by decide) (v := k) (t := t) (by omega) (by omega) (by omega) HCA.out.z (crash_mid CL (by decide) (by decide) HBD9.out.2.2)
            have HO := Lib.hid ho
            have HP := Lib.hid hp
            have HBo := Lib.hid (crash_bd CL HBD9.out.1)
            have HBp := Lib.hid (crash_bd [] hbo)
            clear ho hp hbo
            have htt : (t.toList == t.toList) = true := by simp
            have hss : (s.toList == s.toList) = true := by simp
            rcases hw with ⟨rfl, rfl⟩ | ⟨rfl, rfl⟩
            · skip
              go_wp2_with fail
              refine (open_to (B := 100) (f := 0) (g := 1) _ HDa.out HBo.out (by decide) rfl (by decide) HO.out).mono ?_
              rintro e wb ⟨cb, rfl, hcwb, -, hdb, hsb⟩
              have HDb := Lib.hid hdb
              have HGb := Lib.hid (hsb.gr HGa.out HDW.out)
              clear hcwb hdb hsb
              go_wp2_with fail
              refine (crash_none _ HDb.out).mono ?_
              rintro e wc ⟨rfl, hdc, hsc⟩
              have HDc := Lib.hid hdc
              have HGc := Lib.hid (hsc.gr HGb.out HDW.out)
              clear hdc hsc
              go_wp2_with fail
              refine (open_to (B := 100) (f := 0) (g := 1) _ HDc.out HBp.out (by decide) rfl (by decide) HP.out).mono ?_
              rintro e wd ⟨cd, rfl, hcwd, -, hdd, hsd⟩
              have HGd := Lib.hid (hsd.gr HGc.out HDW.out)
              clear hcwd hdd hsd
              go_wp2
              go_ret
              exact ⟨rfl, HGd.out⟩
            · rcases hst : (T.toList == t.toList) with _ | _
              · skip
                go_wp2_with fail
                refine (open_to (B := 100) (f := 0) (g := 1) _ HDa.out HBo.out (by decide) rfl (by decide) HO.out).mono ?_
                rintro e wb ⟨cb, rfl, hcwb, -, hdb, hsb⟩
                have HDb := Lib.hid hdb
                have HGb := Lib.hid (hsb.gr HGa.out HDW.out)
                clear hcwb hdb hsb
                go_wp2_with fail
                refine (crash_none _ HDb.out).mono ?_
                rintro e wc ⟨rfl, hdc, hsc⟩
                have HDc := Lib.hid hdc
                have HGc := Lib.hid (hsc.gr HGb.out HDW.out)
                clear hdc hsc
                go_wp2_with fail
                refine (open_to (B := 100) (f := 0) (g := 1) _ HDc.out HBp.out (by decide) rfl (by decide) HP.out).mono ?_
                rintro e wd ⟨cd, rfl, hcwd, -, hdd, hsd⟩
                have HGd := Lib.hid (hsd.gr HGc.out HDW.out)
                clear hcwd hdd hsd
                go_wp2
                go_ret
                exact ⟨rfl, HGd.out⟩
              · skip
                go_wp2_with fail
                refine (open_to (B := 100) (f := 0) (g := 1) _ HDa.out HBo.out (by decide) rfl (by decide) HO.out).mono ?_
                rintro e wb ⟨cb, rfl, hcwb, -, hdb, hsb⟩
                have HDb := Lib.hid hdb
                have HGb := Lib.hid (hsb.gr HGa.out HDW.out)
                clear hcwb hdb hsb
                go_wp2_with fail
                refine (crash_none _ HDb.out).mono ?_
                rintro e wc ⟨rfl, hdc, hsc⟩
                have HDc := Lib.hid hdc
                have HGc := Lib.hid (hsc.gr HGb.out HDW.out)
                clear hdc hsc
                go_wp2_with fail
                refine (open_to (B := 100) (f := 0) (g := 1) _ HDc.out HBp.out (by decide) rfl (by decide) HP.out).mono ?_
                rintro e wd ⟨cd, rfl, hcwd, -, hdd, hsd⟩
                have HGd := Lib.hid (hsd.gr HGc.out HDW.out)
                clear hcwd hdd hsd
                go_wp2
                go_ret
                exact ⟨rfl, HGd.out⟩
        · have HD9 := HD
          have HG9 := HG
          have HCA9 := HCA
          have hkl : 12 ≤ k := by omega
          go_wp2_with fail
          refine (CR.out _ _ _ HD9.out (HI.out.gr HG9.out) HOF.out).mono ?_
          rintro e wa ⟨rfl, hda, hsa⟩
          have HDa := Lib.hid hda
          have HGa := Lib.hid (hsa.gr HG9.out HDW.out)
          clear hda hsa
          obtain ⟨Qo, ho, hco⟩ := (HCA9.out.crashes (by decide) CL).opens (crash_ok HD9.out.ok CL) (by decide) (by decide) (by omega) (by omega)
          obtain ⟨Qp, hp, hcp⟩ := (hco.calm0.crashes (by decide) []).opens (crash_ok (d := Qo) (okO ho HDa.out) []) (by decide) (by decide) (by omega) (by omega)
          have HO := Lib.hid ho
          have HP := Lib.hid hp
          have HBo := Lib.hid (crash_bd CL HCA9.out.bd)
          have HBp := Lib.hid (crash_bd [] hco.bd)
          have htt : (t.toList == t.toList) = true := by simp
          clear ho hco hp hcp
          go_wp2_with fail
          refine (open_to (B := 100) (f := 0) (g := 1) _ HDa.out HBo.out (by decide) rfl (by decide) HO.out).mono ?_
          rintro e wb ⟨cb, rfl, hcwb, -, hdb, hsb⟩
          have HDb := Lib.hid hdb
          have HGb := Lib.hid (hsb.gr HGa.out HDW.out)
          clear hcwb hdb hsb
          go_wp2_with fail
          refine (crash_none _ HDb.out).mono ?_
          rintro e wc ⟨rfl, hdc, hsc⟩
          have HDc := Lib.hid hdc
          have HGc := Lib.hid (hsc.gr HGb.out HDW.out)
          clear hdc hsc
          go_wp2_with fail
          refine (open_to (B := 100) (f := 0) (g := 1) _ HDc.out HBp.out (by decide) rfl (by decide) HP.out).mono ?_
          rintro e wd ⟨cd, rfl, hcwd, -, hdd, hsd⟩
          have HGd := Lib.hid (hsd.gr HGc.out HDW.out)
          clear hcwd hdd hsd
          go_wp2
          go_ret
          exact ⟨rfl, HGd.out⟩
      · have HD9 := HD
        have HG9 := HG
        have HCA9 := HCA
        go_wp2_with fail
        refine (CR.out _ _ _ HD9.out (HI.out.gr HG9.out) HOF.out).mono ?_
        rintro e wa ⟨rfl, hda, hsa⟩
        have HDa := Lib.hid hda
        have HGa := Lib.hid (hsa.gr HG9.out HDW.out)
        clear hda hsa
        obtain ⟨Qo, ho, hco⟩ := (HCA9.out.crashes (by decide) CL).opens (crash_ok HD9.out.ok CL) (by decide) (by decide) (by omega) (by omega)
        obtain ⟨Qp, hp, hcp⟩ := (hco.calm0.crashes (by decide) []).opens (crash_ok (d := Qo) (okO ho HDa.out) []) (by decide) (by decide) (by omega) (by omega)
        have HO := Lib.hid ho
        have HP := Lib.hid hp
        have HBo := Lib.hid (crash_bd CL HCA9.out.bd)
        have HBp := Lib.hid (crash_bd [] hco.bd)
        have htt : (t.toList == t.toList) = true := by simp
        clear ho hco hp hcp
        go_wp2_with fail
        refine (open_to (B := 100) (f := 0) (g := 1) _ HDa.out HBo.out (by decide) rfl (by decide) HO.out).mono ?_
        rintro e wb ⟨cb, rfl, hcwb, -, hdb, hsb⟩
        have HDb := Lib.hid hdb
        have HGb := Lib.hid (hsb.gr HGa.out HDW.out)
        clear hcwb hdb hsb
        go_wp2_with fail
        refine (crash_none _ HDb.out).mono ?_
        rintro e wc ⟨rfl, hdc, hsc⟩
        have HDc := Lib.hid hdc
        have HGc := Lib.hid (hsc.gr HGb.out HDW.out)
        clear hdc hsc
        go_wp2_with fail
        refine (open_to (B := 100) (f := 0) (g := 1) _ HDc.out HBp.out (by decide) rfl (by decide) HP.out).mono ?_
        rintro e wd ⟨cd, rfl, hcwd, -, hdd, hsd⟩
        have HGd := Lib.hid (hsd.gr HGc.out HDW.out)
        clear hcwd hdd hsd
        go_wp2
        go_ret
        exact ⟨rfl, HGd.out⟩
  · obtain ⟨CL, hCL⟩ : ∃ CL, C = CL := ⟨_, rfl⟩
    subst hCL
    have HI := Lib.hid hC
    have CR : Hid (∀ (d : Nat) (Q : D) (w9 : World), DkIs w9 d Q → Ints w9 ca C → (C = [] ∨ Off ca d) → Calls Try.prog 20 #[.pointer (some ⟨d, 0, none⟩), .slice ca C.length ccap] w9 fun e w' => e = .returned (.tuple #[]) ∧ DkIs w' d (crash Q C) ∧ Sole d w9 w') := Lib.hid fun d Q w9 h hi ho => crash_any C ca ccap w9 hi hcap ho h
    clear hC
    go_enter Try.func6, Try.ntmps6
    go_wp2_with fail
    refine (awake12 w).mono ?_
    rintro e w1 ⟨rfl, hg1⟩
    have HG1 := Lib.hid hg1
    clear hg1
    have hst := HST.out
    have hsl := hst.2.1
    clear hst
    go_wp2_with fail
    refine (new_any 10000 (by decide) _).mono ?_
    rintro e w2 ⟨d, rfl, hbe, hd2, hg2⟩
    have HD2 := Lib.hid hd2
    have HG2 := Lib.hid (HG1.out.trans hg2)
    have HDW := Lib.hid (show w.heap.size ≤ d by have := HG1.out.size; omega)
    have HOF : Hid (C = [] ∨ Off ca d) := Lib.hid (by
      rcases HI.out.2.2 with h | ⟨b9, o9, rfl, hc9⟩
      · exact .inl h
      · rcases Nat.eq_zero_or_pos C.length with h | h
        · exact .inl (List.length_eq_zero_iff.1 h)
        · exact .inr (fun bb off e => by cases e; have := cell_lt (hc9 0 h); have := HDW.out; omega))
    clear hbe hd2 hg2
    go_wp2_with fail
    refine (open_to (B := 100) (f := 0) (g := 1) _ HD2.out HB.out (by decide) rfl (by decide) HO0.out).mono ?_
    rintro e w3 ⟨c, rfl, hcw, hcl, hd3, hs3⟩
    have HC3 := Lib.hid hcl
    have HD3 := Lib.hid hd3
    have HG3 := Lib.hid (hs3.gr HG2.out HDW.out)
    have HCW := Lib.hid (show w.heap.size ≤ c from Nat.le_trans HG2.out.size hcw)
    have HCD := Lib.hid hcl.ne
    clear hcw hcl hd3 hs3
    go_wp2_with fail
    refine (fail_any11 (max 0 (min fl 60)) hfw _ HD3.out).mono ?_
    rintro e w4 ⟨rfl, hd4, hs4⟩
    have HD4 := Lib.hid hd4
    have HG4 := Lib.hid (hs4.gr HG3.out HDW.out)
    have HC4 := Lib.hid (HC3.out.sole hs4 HCD.out)
    have HCA4 := Lib.hid (HCA0.out.calm0.fails (max 0 (min fl 60)))
    clear hd4 hs4
    go_wp2
    go_loopw [11, 12, 13] (fun lv nv i wr => ∃ (k : Nat) (Q : D) (t : ByteArray), k ≤ ss.length ∧ k ≤ 12 ∧ i = .int .i64 (k : Nat) ∧ lv = .string t ∧ nv = .string t ∧ t.size ≤ 40 ∧ Hid (ClIs wr c d 0 k) ∧ Hid (DkIs wr d Q) ∧ Hid (Calm0 100 10000 0 k t Q) ∧ Hid (Gr w wr)) (fun _ _ i _ => ss.length - (intOf i).toNat)
    case atStart => exact ⟨0, _, ⟨#[]⟩, by omega, by omega, rfl, rfl, rfl, by decide, HC4, HD4, HCA4, HG4⟩
    case round =>
      clear HC3 HD3 HG3 HO0 HC4 HD4 HCA4 HG4 HCA0
      obtain ⟨k, Q, t, hk, hk12, rfl, rfl, rfl, ht40, HC, HD, HCA, HG⟩ := hrel
      by_cases hlt : k < ss.length
      · by_cases h12 : k < 12
        · obtain ⟨b1, o1, rfl, _, hc1, hz1⟩ := HST.out.at k hlt
          replace hc1 := HG.out.cell hc1
          generalize ss[k] = s0 at *
          have CU := Lib.hid (fun w => cut_any s0 40 w hz1 (by decide))
          have hcs := cutB_le s0 40
          obtain ⟨s, hs⟩ : ∃ s, cutB s0 40 = s := ⟨_, rfl⟩
          rw [hs] at CU hcs
          clear hs
          have hs40 : s.size ≤ 40 := by omega
          clear hcs
          obtain ⟨Q1, -, hw1⟩ := HCA.out.writes (u := s) HD.out.ok (by decide) (by decide) (by omega)
          go_wp2_with fail
          refine (CU.out _).mono ?_
          rintro e w4 ⟨rfl, rfl⟩
          clear hc1
          rcases hw1 with ⟨hw1, hcalm1⟩ | ⟨hw1, hbd1, hrm1, hmid1⟩
          · have HW1 := Lib.hid hw1
            have HCA1 := Lib.hid hcalm1
            clear hw1 hcalm1
            go_wp2_with fail
            refine (write_to _ HD.out HC.out (by decide) (by omega) (by omega) HW1.out).mono ?_
            rintro e w5 ⟨rfl, hd5, hc5, hs5⟩
            have HD5 := Lib.hid hd5
            have HC5 : Hid (ClIs w5 c d 0 (k + 1)) := Lib.hid hc5
            have HG5 := Lib.hid (hs5.gr HG.out HCW.out HDW.out)
            clear hd5 hc5 hs5
            go_wp2
            go_roundw
            case rel => exact ⟨k + 1, Q1, s, by omega, by omega, by go_num, rfl, rfl, hs40, HC5, HD5, HCA1, HG5⟩
            case measure => simp [intOf]; omega
          · have HW1 := Lib.hid hw1
            have HBD9 := Lib.hid (And.intro hbd1 (And.intro hrm1 hmid1))
            clear hw1 hbd1 hrm1 hmid1
            go_wp2_with fail
            refine (write_to _ HD.out HC.out (by decide) (by omega) (by omega) HW1.out).mono ?_
            rintro e w5 ⟨rfl, hd5, hc5, hs5⟩
            have HD9 := Lib.hid hd5
            have HG9 := Lib.hid (hs5.gr HG.out HCW.out HDW.out)
            clear hd5 hc5 hs5
            go_wp2_with fail
            refine (CR.out _ _ _ HD9.out (HI.out.gr HG9.out) HOF.out).mono ?_
            rintro e wa ⟨rfl, hda, hsa⟩
            have HDa := Lib.hid hda
            have HGa := Lib.hid (hsa.gr HG9.out HDW.out)
            clear hda hsa
            obtain ⟨Qo, V, T, ho, hw, hbo, Qp, hp⟩ := open_twice (t1 := s) (crash_ok HD9.out.ok C) (crash_bd C HBD9.out.1) (by show 5 * 100 ≤ Q1.room; rw [HBD9.out.2.1]; decide) rfl (f := 0) (by decide) (v := k) (t := t) (by omega) (by omega) (by omega) HCA.out.z (crash_mid C (by decide) (by decide) HBD9.out.2.2)
            have HO := Lib.hid ho
            have HP := Lib.hid hp
            have HBo := Lib.hid (crash_bd C HBD9.out.1)
            have HBp := Lib.hid (crash_bd [] hbo)
            clear ho hp hbo
            have htt : (t.toList == t.toList) = true := by simp
            have hss : (s.toList == s.toList) = true := by simp
            rcases hw with ⟨rfl, rfl⟩ | ⟨rfl, rfl⟩
            · skip
              go_wp2_with fail
              refine (open_to (B := 100) (f := 0) (g := 1) _ HDa.out HBo.out (by decide) rfl (by decide) HO.out).mono ?_
              rintro e wb ⟨cb, rfl, hcwb, -, hdb, hsb⟩
              have HDb := Lib.hid hdb
              have HGb := Lib.hid (hsb.gr HGa.out HDW.out)
              clear hcwb hdb hsb
              go_wp2_with fail
              refine (crash_none _ HDb.out).mono ?_
              rintro e wc ⟨rfl, hdc, hsc⟩
              have HDc := Lib.hid hdc
              have HGc := Lib.hid (hsc.gr HGb.out HDW.out)
              clear hdc hsc
              go_wp2_with fail
              refine (open_to (B := 100) (f := 0) (g := 1) _ HDc.out HBp.out (by decide) rfl (by decide) HP.out).mono ?_
              rintro e wd ⟨cd, rfl, hcwd, -, hdd, hsd⟩
              have HGd := Lib.hid (hsd.gr HGc.out HDW.out)
              clear hcwd hdd hsd
              go_wp2
              go_ret
              exact ⟨rfl, HGd.out⟩
            · rcases hst : (T.toList == t.toList) with _ | _
              · skip
                go_wp2_with fail
                refine (open_to (B := 100) (f := 0) (g := 1) _ HDa.out HBo.out (by decide) rfl (by decide) HO.out).mono ?_
                rintro e wb ⟨cb, rfl, hcwb, -, hdb, hsb⟩
                have HDb := Lib.hid hdb
                have HGb := Lib.hid (hsb.gr HGa.out HDW.out)
                clear hcwb hdb hsb
                go_wp2_with fail
                refine (crash_none _ HDb.out).mono ?_
                rintro e wc ⟨rfl, hdc, hsc⟩
                have HDc := Lib.hid hdc
                have HGc := Lib.hid (hsc.gr HGb.out HDW.out)
                clear hdc hsc
                go_wp2_with fail
                refine (open_to (B := 100) (f := 0) (g := 1) _ HDc.out HBp.out (by decide) rfl (by decide) HP.out).mono ?_
                rintro e wd ⟨cd, rfl, hcwd, -, hdd, hsd⟩
                have HGd := Lib.hid (hsd.gr HGc.out HDW.out)
                clear hcwd hdd hsd
                go_wp2
                go_ret
                exact ⟨rfl, HGd.out⟩
              · skip
                go_wp2_with fail
                refine (open_to (B := 100) (f := 0) (g := 1) _ HDa.out HBo.out (by decide) rfl (by decide) HO.out).mono ?_
                rintro e wb ⟨cb, rfl, hcwb, -, hdb, hsb⟩
                have HDb := Lib.hid hdb
                have HGb := Lib.hid (hsb.gr HGa.out HDW.out)
                clear hcwb hdb hsb
                go_wp2_with fail
                refine (crash_none _ HDb.out).mono ?_
                rintro e wc ⟨rfl, hdc, hsc⟩
                have HDc := Lib.hid hdc
                have HGc := Lib.hid (hsc.gr HGb.out HDW.out)
                clear hdc hsc
                go_wp2_with fail
                refine (open_to (B := 100) (f := 0) (g := 1) _ HDc.out HBp.out (by decide) rfl (by decide) HP.out).mono ?_
                rintro e wd ⟨cd, rfl, hcwd, -, hdd, hsd⟩
                have HGd := Lib.hid (hsd.gr HGc.out HDW.out)
                clear hcwd hdd hsd
                go_wp2
                go_ret
                exact ⟨rfl, HGd.out⟩
        · have HD9 := HD
          have HG9 := HG
          have HCA9 := HCA
          have hkl : 12 ≤ k := by omega
          go_wp2_with fail
          refine (CR.out _ _ _ HD9.out (HI.out.gr HG9.out) HOF.out).mono ?_
          rintro e wa ⟨rfl, hda, hsa⟩
          have HDa := Lib.hid hda
          have HGa := Lib.hid (hsa.gr HG9.out HDW.out)
          clear hda hsa
          obtain ⟨Qo, ho, hco⟩ := (HCA9.out.crashes (by decide) C).opens (crash_ok HD9.out.ok C) (by decide) (by decide) (by omega) (by omega)
          obtain ⟨Qp, hp, hcp⟩ := (hco.calm0.crashes (by decide) []).opens (crash_ok (d := Qo) (okO ho HDa.out) []) (by decide) (by decide) (by omega) (by omega)
          have HO := Lib.hid ho
          have HP := Lib.hid hp
          have HBo := Lib.hid (crash_bd C HCA9.out.bd)
          have HBp := Lib.hid (crash_bd [] hco.bd)
          have htt : (t.toList == t.toList) = true := by simp
          clear ho hco hp hcp
          go_wp2_with fail
          refine (open_to (B := 100) (f := 0) (g := 1) _ HDa.out HBo.out (by decide) rfl (by decide) HO.out).mono ?_
          rintro e wb ⟨cb, rfl, hcwb, -, hdb, hsb⟩
          have HDb := Lib.hid hdb
          have HGb := Lib.hid (hsb.gr HGa.out HDW.out)
          clear hcwb hdb hsb
          go_wp2_with fail
          refine (crash_none _ HDb.out).mono ?_
          rintro e wc ⟨rfl, hdc, hsc⟩
          have HDc := Lib.hid hdc
          have HGc := Lib.hid (hsc.gr HGb.out HDW.out)
          clear hdc hsc
          go_wp2_with fail
          refine (open_to (B := 100) (f := 0) (g := 1) _ HDc.out HBp.out (by decide) rfl (by decide) HP.out).mono ?_
          rintro e wd ⟨cd, rfl, hcwd, -, hdd, hsd⟩
          have HGd := Lib.hid (hsd.gr HGc.out HDW.out)
          clear hcwd hdd hsd
          go_wp2
          go_ret
          exact ⟨rfl, HGd.out⟩
      · have HD9 := HD
        have HG9 := HG
        have HCA9 := HCA
        go_wp2_with fail
        refine (CR.out _ _ _ HD9.out (HI.out.gr HG9.out) HOF.out).mono ?_
        rintro e wa ⟨rfl, hda, hsa⟩
        have HDa := Lib.hid hda
        have HGa := Lib.hid (hsa.gr HG9.out HDW.out)
        clear hda hsa
        obtain ⟨Qo, ho, hco⟩ := (HCA9.out.crashes (by decide) C).opens (crash_ok HD9.out.ok C) (by decide) (by decide) (by omega) (by omega)
        obtain ⟨Qp, hp, hcp⟩ := (hco.calm0.crashes (by decide) []).opens (crash_ok (d := Qo) (okO ho HDa.out) []) (by decide) (by decide) (by omega) (by omega)
        have HO := Lib.hid ho
        have HP := Lib.hid hp
        have HBo := Lib.hid (crash_bd C HCA9.out.bd)
        have HBp := Lib.hid (crash_bd [] hco.bd)
        have htt : (t.toList == t.toList) = true := by simp
        clear ho hco hp hcp
        go_wp2_with fail
        refine (open_to (B := 100) (f := 0) (g := 1) _ HDa.out HBo.out (by decide) rfl (by decide) HO.out).mono ?_
        rintro e wb ⟨cb, rfl, hcwb, -, hdb, hsb⟩
        have HDb := Lib.hid hdb
        have HGb := Lib.hid (hsb.gr HGa.out HDW.out)
        clear hcwb hdb hsb
        go_wp2_with fail
        refine (crash_none _ HDb.out).mono ?_
        rintro e wc ⟨rfl, hdc, hsc⟩
        have HDc := Lib.hid hdc
        have HGc := Lib.hid (hsc.gr HGb.out HDW.out)
        clear hdc hsc
        go_wp2_with fail
        refine (open_to (B := 100) (f := 0) (g := 1) _ HDc.out HBp.out (by decide) rfl (by decide) HP.out).mono ?_
        rintro e wd ⟨cd, rfl, hcwd, -, hdd, hsd⟩
        have HGd := Lib.hid (hsd.gr HGc.out HDW.out)
        clear hcwd hdd hsd
        go_wp2
        go_ret
        exact ⟨rfl, HGd.out⟩
end Go.Proofs.Ytfcfbecfamemlaa
