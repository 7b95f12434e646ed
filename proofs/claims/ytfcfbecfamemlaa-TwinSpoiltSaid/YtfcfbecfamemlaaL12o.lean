import Derived.Test.YtfcfbecfamemlaaL12n
import Derived.Test.YtfcfbecfamemlaaC12
import Derived.Test.YtfcfbecfamemlaaC02
import Derived.WalkKit
import Derived.ProofKit
import Derived.LoopTactic
import Derived.Outline
import Derived.WalkSpells
import Derived.WalkLawsBesides
import Derived.Lib.Hide
import Derived.Deep.LoopGhost
import Derived.Deep.QuietTactic
import Derived.BigQuiet
import Derived.ShutString
import Derived.IntWalk
import Derived.Lib.MinMax
import Derived.BigQuiet
import Derived.Deep.RegionWith
import Derived.Deep.RegionHeld3
namespace Go.Proofs.Ytfcfbecfamemlaa
open Go.ChangeShapes Go.WideShapes Go.ChangeAt Go.RowKit
open Dk Enc
set_option linter.unusedVariables false
set_option linter.unusedSimpArgs false
set_option maxRecDepth 100000 in
set_option maxHeartbeats 4000000 in
theorem spoilt_walk (ss : List ByteArray) (a : Option Addr) (cap : Nat) (sec : Bool) (at_ : Int) (y : Nat) (w : World) (hst : Strs w a ss) (wf : (Lit.int .i64 at_).wf = true) (hy : y < 256) :
    Calls Try.prog 7 #[.agg #[.slice a ss.length cap, .bool sec, .int .i64 at_, .int .u8 (y : Nat)]] w fun e w' => e = .returned (.bool true) ∧ Gr w w' := by
  obtain ⟨Q0, ho, hcalm⟩ := (calm_new 100 10000 2).opens (new_ok 10000 (by decide)) (by decide) (by decide) (by decide) (by decide)
  have HO := Lib.hid ho
  have HCA0 := Lib.hid hcalm
  have HB := Lib.hid (bd_new 10000 100)
  have hsl := hst.2.1
  have HST := Lib.hid hst
  have hfb := bounds_i64 wf
  clear ho hcalm hst
  go_enter Try.func7, Try.ntmps7
  go_wp2_with fail
  have gz := (Gr.refl w).alloc (.cells #[.slice a ss.length cap, .bool sec, .int .i64 at_, .int .u8 (y : Nat)] 62)
  have z0 : (w.alloc (.cells #[.slice a ss.length cap, .bool sec, .int .i64 at_, .int .u8 (y : Nat)] 62)).cell? ⟨w.heap.size, 0, none⟩ = some (.slice a ss.length cap) := new_cell rfl rfl
  have z1 : (w.alloc (.cells #[.slice a ss.length cap, .bool sec, .int .i64 at_, .int .u8 (y : Nat)] 62)).cell? ⟨w.heap.size, 1, none⟩ = some (.bool sec) := new_cell rfl rfl
  have z2 : (w.alloc (.cells #[.slice a ss.length cap, .bool sec, .int .i64 at_, .int .u8 (y : Nat)] 62)).cell? ⟨w.heap.size, 2, none⟩ = some (.int .i64 at_) := new_cell rfl rfl
  have z3 : (w.alloc (.cells #[.slice a ss.length cap, .bool sec, .int .i64 at_, .int .u8 (y : Nat)] 62)).cell? ⟨w.heap.size, 3, none⟩ = some (.int .u8 (y : Nat)) := new_cell rfl rfl
  generalize w.alloc (.cells #[.slice a ss.length cap, .bool sec, .int .i64 at_, .int .u8 (y : Nat)] 62) = w0 at *
  refine (awake12 w0).mono ?_
  rintro e w1 ⟨rfl, hg1⟩
  replace z0 := hg1.cell z0
  replace z1 := hg1.cell z1
  replace z2 := hg1.cell z2
  replace z3 := hg1.cell z3
  have HG1 := Lib.hid (gz.trans hg1)
  clear hg1 gz
  generalize w.heap.size = xb at *
  go_wp2
  go_quiet (fail)
  all_goals
    have HG1q := Lib.hid (HG1.out.trans ((Gr.refl w1).drewN nq))
    clear z0 z1 z2 z3
    go_wp2_with fail
    refine (new_any 10000 (by decide) _).mono ?_
    rintro e w2 ⟨d, rfl, hbe, hd2, hg2⟩
    have HD2 := Lib.hid hd2
    have HG2 := Lib.hid (HG1q.out.trans hg2)
    have HDW := Lib.hid (show w.heap.size ≤ d by have := HG1q.out.size; omega)
    clear hbe hd2 hg2
    go_wp2_with fail
    refine (open_to (B := 100) (f := 2) (g := 3) _ HD2.out HB.out (by decide) rfl (by decide) HO.out).mono ?_
    rintro e w3 ⟨c, rfl, hcw, hcl, hd3, hs3⟩
    have HC3 := Lib.hid hcl
    have HD3 := Lib.hid hd3
    have HG3 := Lib.hid (hs3.gr HG2.out HDW.out)
    have HCW := Lib.hid (show w.heap.size ≤ c from Nat.le_trans HG2.out.size hcw)
    clear hcw hcl hd3 hs3
    go_wp2
    go_loopw [11, 12, 13] (fun lv nv i wr => ∃ (kk : Nat) (Q : D) (t : ByteArray), kk ≤ ss.length ∧ kk ≤ 6 ∧ i = .int .i64 (kk : Nat) ∧ nv = .int .i64 (kk : Nat) ∧ lv = .string t ∧ t.size ≤ 40 ∧ Hid (ClIs wr c d 2 kk) ∧ Hid (DkIs wr d Q) ∧ Hid (Calm 100 10000 2 kk t Q) ∧ Hid (Gr w wr)) (fun _ _ i _ => ss.length - (intOf i).toNat)
    case atStart => exact ⟨0, Q0, ⟨#[]⟩, by omega, by omega, rfl, rfl, rfl, by decide, HC3, HD3, HCA0, HG3⟩
    case round =>
      clear HC3 HD3 HCA0 HG3 HO
      obtain ⟨kk, Q, t, hk, hk6, rfl, rfl, rfl, ht40, HC, HD, HCA, HG⟩ := hrel
      by_cases hlt : kk < ss.length
      · by_cases h6 : kk < 6
        · obtain ⟨b1, o1, rfl, _, hc1, hz1⟩ := HST.out.at kk hlt
          replace hc1 := HG.out.cell hc1
          generalize ss[kk] = s0 at *
          have CU := Lib.hid (fun w => cut_any s0 40 w hz1 (by decide))
          have hcs := cutB_le s0 40
          obtain ⟨s, hs⟩ : ∃ s, cutB s0 40 = s := ⟨_, rfl⟩
          rw [hs] at CU hcs
          clear hs
          have hs40 : s.size ≤ 40 := by omega
          clear hcs
          obtain ⟨Q1, hw1, hcalm1⟩ := HCA.out.writes (u := s) HD.out.ok (by decide) (by decide) (by omega)
          have HW1 := Lib.hid hw1
          have HCA1 := Lib.hid hcalm1
          clear hw1 hcalm1
          go_wp2_with fail
          refine (CU.out _).mono ?_
          rintro e w4 ⟨rfl, rfl⟩
          go_wp2_with fail
          refine (write_to _ HD.out HC.out (by decide) (by omega) (by omega) HW1.out).mono ?_
          rintro e w5 ⟨rfl, hd5, hc5, hs5⟩
          have HD5 := Lib.hid hd5
          have HC5 : Hid (ClIs w5 c d 2 (kk + 1)) := Lib.hid hc5
          have HG5 := Lib.hid (hs5.gr HG.out HCW.out HDW.out)
          clear hd5 hc5 hs5 hc1
          go_wp2
          go_roundw
          case rel => exact ⟨kk + 1, Q1, s, by omega, by omega, by go_num, by go_num, rfl, hs40, HC5, HD5, HCA1, HG5⟩
          case measure => simp [intOf]; omega
        · have h66 : 6 ≤ kk := by omega
          by_cases hk0 : kk = 0
          · exfalso; omega
          · have hk1 : 1 ≤ kk := by omega
            have hkz : ((kk : Int) == 0) = false := by simp [hk0]
            cases sec
            · skip
              have HFA := Lib.hid (show Q.fs 2 = flat (spell kk t) from (HCA.out.a).trans (by rw [hv_pos (by omega)]))
              have HFB := Lib.hid (show Q.fs 3 = flat (spell kk t) from (HCA.out.b).trans (by rw [hv_pos (by omega)]))
              have HFK := Lib.hid (show (Q.fs 2).now = spell kk t by rw [HFA.out]; rfl)
              have HFS := Lib.hid (show (Q.fs 2).now = (Q.fs 2).sure by rw [HFA.out]; rfl)
              have hsp := spell_size kk t
              have hlt0 : 0 < (spell kk t).size := by omega
              have hls : (spell kk t).size ≤ 100 := by have := spell_le kk t; omega
              have m0 := Int.emod_nonneg at_ (show ((spell kk t).size : Int) ≠ 0 by omega)
              have m1 := Int.emod_lt_of_pos at_ (show 0 < ((spell kk t).size : Int) by omega)
              have r1 := Int.tmod_lt_of_pos at_ (show 0 < ((spell kk t).size : Int) by omega)
              have r2 := Int.lt_tmod_of_pos at_ (show 0 < ((spell kk t).size : Int) by omega)
              have EM := Lib.hid (tmod_em2 at_ ((spell kk t).size : Int) (by omega))
              obtain ⟨m, hm⟩ : ∃ m, at_ % ((spell kk t).size : Int) = m := ⟨_, rfl⟩
              rw [hm] at EM m0 m1
              have hmm : m = ((m.toNat : Nat) : Int) := by omega
              have HSPL := Lib.hid (spoil_flat (d := Q) (k := 2) (n := m.toNat) (UInt8.ofNat y) (by decide) HFA.out (by omega))
              have HY := Lib.hid (fun w (h : DkIs w d Q) => spoil_yes (b := d) 2 m.toNat y (by decide) HFS.out (by rw [HFK.out]; omega) hy w h)
              rw [HSPL.out, ← hmm] at HY
              have RD := Lib.hid (fun w (h : DkIs w d Q) => read_in 2 (by decide) w h)
              rw [HFK.out] at RD
              have hbd3 : Bd 100 (putF Q 2 (flat (Dk.flip (spell kk t) m.toNat (UInt8.ofNat y)))).fs := HCA.out.bd.upd 2 (by rw [flat_size, Dk.flip_size]; exact hls)
              have OP3 := Lib.hid (fun (hok : (putF Q 2 (flat (Dk.flip (spell kk t) m.toNat (UInt8.ofNat y)))).Ok) => open_spoilt hok hbd3 (by show 5 * 100 ≤ Q.room; rw [HCA.out.room]; decide) HCA.out.fail (f := 2) (g := 3) rfl (by decide) (v := kk) (t := t) (a := Dk.flip (spell kk t) m.toNat (UInt8.ofNat y)) (b := spell kk t) (by omega) (by omega) (by omega) (putF_same _ _ _) ((putF_other _ _ _ _ (by decide)).trans HFB.out) (.inr ⟨rfl, parse_flip kk t m.toNat (UInt8.ofNat y) (by omega)⟩))
              have HB3 := Lib.hid hbd3
              have m2 : m < 100 := by omega
              clear hm m1 hmm hbd3 hsp
              generalize putF Q 2 (flat (Dk.flip (spell kk t) m.toNat (UInt8.ofNat y))) = Q3 at *
              clear HSPL HFK HFS HFA HFB
              generalize spell kk t = z at *
              have hkw : IntKind.u64.wrap (kk : Int) = (kk : Int) := IntWalk.u64_in _ (by omega)
              have htt : (t.toList == t.toList) = true := by simp
              have hne2 : (z.size : Int) ≠ 0 := by omega
              have hne3 : z.size ≠ 0 := by omega
              go_wp2_with fail
              refine (RD.out _ HD.out).mono ?_
              rintro e wa ⟨rfl, hga⟩
              have HDa := Lib.hid (HD.out.gr hga)
              have HGa := Lib.hid (HG.out.trans hga)
              have HCa := Lib.hid (HC.out.gr hga)
              clear hga
              go_wp2_with (simp only [EM.out]; refine (HY.out _ HDa.out).mono ?_; rintro e wb ⟨rfl, hdb, hsb⟩)
              have HDb := Lib.hid hdb
              have HGb := Lib.hid (hsb.gr HGa.out HDW.out)
              obtain ⟨Q4, ho4⟩ := OP3.out hdb.ok
              have HO4 := Lib.hid ho4
              clear hdb hsb ho4
              go_wp2_with fail
              refine (open_to (B := 100) (f := 2) (g := 3) _ HDb.out HB3.out (by decide) rfl (by decide) HO4.out).mono ?_
              rintro e wc ⟨cc, rfl, hcwc, hclc, hdc, hsc⟩
              have HCc := Lib.hid hclc
              have HGc := Lib.hid (hsc.gr HGb.out HDW.out)
              clear hcwc hclc hdc hsc
              go_wp2_with fail
              refine (version_any _ HCc.out).mono ?_
              rintro e wd ⟨rfl, rfl⟩
              go_wp2
              go_ret
              exact ⟨rfl, HGc.out⟩
            · skip
              have HFA := Lib.hid (show Q.fs 2 = flat (spell kk t) from (HCA.out.a).trans (by rw [hv_pos (by omega)]))
              have HFB := Lib.hid (show Q.fs 3 = flat (spell kk t) from (HCA.out.b).trans (by rw [hv_pos (by omega)]))
              have HFK := Lib.hid (show (Q.fs 3).now = spell kk t by rw [HFB.out]; rfl)
              have HFS := Lib.hid (show (Q.fs 3).now = (Q.fs 3).sure by rw [HFB.out]; rfl)
              have hsp := spell_size kk t
              have hlt0 : 0 < (spell kk t).size := by omega
              have hls : (spell kk t).size ≤ 100 := by have := spell_le kk t; omega
              have m0 := Int.emod_nonneg at_ (show ((spell kk t).size : Int) ≠ 0 by omega)
              have m1 := Int.emod_lt_of_pos at_ (show 0 < ((spell kk t).size : Int) by omega)
              have r1 := Int.tmod_lt_of_pos at_ (show 0 < ((spell kk t).size : Int) by omega)
              have r2 := Int.lt_tmod_of_pos at_ (show 0 < ((spell kk t).size : Int) by omega)
              have EM := Lib.hid (tmod_em2 at_ ((spell kk t).size : Int) (by omega))
              obtain ⟨m, hm⟩ : ∃ m, at_ % ((spell kk t).size : Int) = m := ⟨_, rfl⟩
              rw [hm] at EM m0 m1
              have hmm : m = ((m.toNat : Nat) : Int) := by omega
              have HSPL := Lib.hid (spoil_flat (d := Q) (k := 3) (n := m.toNat) (UInt8.ofNat y) (by decide) HFB.out (by omega))
              have HY := Lib.hid (fun w (h : DkIs w d Q) => spoil_yes (b := d) 3 m.toNat y (by decide) HFS.out (by rw [HFK.out]; omega) hy w h)
              rw [HSPL.out, ← hmm] at HY
              have RD := Lib.hid (fun w (h : DkIs w d Q) => read_in 3 (by decide) w h)
              rw [HFK.out] at RD
              have hbd3 : Bd 100 (putF Q 3 (flat (Dk.flip (spell kk t) m.toNat (UInt8.ofNat y)))).fs := HCA.out.bd.upd 3 (by rw [flat_size, Dk.flip_size]; exact hls)
              have OP3 := Lib.hid (fun (hok : (putF Q 3 (flat (Dk.flip (spell kk t) m.toNat (UInt8.ofNat y)))).Ok) => open_spoilt hok hbd3 (by show 5 * 100 ≤ Q.room; rw [HCA.out.room]; decide) HCA.out.fail (f := 2) (g := 3) rfl (by decide) (v := kk) (t := t) (a := spell kk t) (b := Dk.flip (spell kk t) m.toNat (UInt8.ofNat y)) (by omega) (by omega) (by omega) ((putF_other _ _ _ _ (by decide)).trans HFA.out) (putF_same _ _ _) (.inl ⟨rfl, parse_flip kk t m.toNat (UInt8.ofNat y) (by omega)⟩))
              have HB3 := Lib.hid hbd3
              have m2 : m < 100 := by omega
              clear hm m1 hmm hbd3 hsp
              generalize putF Q 3 (flat (Dk.flip (spell kk t) m.toNat (UInt8.ofNat y))) = Q3 at *
              clear HSPL HFK HFS HFA HFB
              generalize spell kk t = z at *
              have hkw : IntKind.u64.wrap (kk : Int) = (kk : Int) := IntWalk.u64_in _ (by omega)
              have htt : (t.toList == t.toList) = true := by simp
              have hne2 : (z.size : Int) ≠ 0 := by omega
              have hne3 : z.size ≠ 0 := by omega
              go_wp2_with fail
              refine (RD.out _ HD.out).mono ?_
              rintro e wa ⟨rfl, hga⟩
              have HDa := Lib.hid (HD.out.gr hga)
              have HGa := Lib.hid (HG.out.trans hga)
              have HCa := Lib.hid (HC.out.gr hga)
              clear hga
              go_wp2_with (simp only [EM.out]; refine (HY.out _ HDa.out).mono ?_; rintro e wb ⟨rfl, hdb, hsb⟩)
              have HDb := Lib.hid hdb
              have HGb := Lib.hid (hsb.gr HGa.out HDW.out)
              obtain ⟨Q4, ho4⟩ := OP3.out hdb.ok
              have HO4 := Lib.hid ho4
              clear hdb hsb ho4
              go_wp2_with fail
              refine (open_to (B := 100) (f := 2) (g := 3) _ HDb.out HB3.out (by decide) rfl (by decide) HO4.out).mono ?_
              rintro e wc ⟨cc, rfl, hcwc, hclc, hdc, hsc⟩
              have HCc := Lib.hid hclc
              have HGc := Lib.hid (hsc.gr HGb.out HDW.out)
              clear hcwc hclc hdc hsc
              go_wp2_with fail
              refine (version_any _ HCc.out).mono ?_
              rintro e wd ⟨rfl, rfl⟩
              go_wp2
              go_ret
              exact ⟨rfl, HGc.out⟩
      · skip
        by_cases hk0 : kk = 0
        · subst hk0
          go_wp2_with fail
          refine (version_any _ HC.out).mono ?_
          rintro e wd ⟨rfl, rfl⟩
          go_wp2
          go_ret
          exact ⟨rfl, HG.out⟩
        · have hk1 : 1 ≤ kk := by omega
          have hkz : ((kk : Int) == 0) = false := by simp [hk0]
          cases sec
          · skip
            have HFA := Lib.hid (show Q.fs 2 = flat (spell kk t) from (HCA.out.a).trans (by rw [hv_pos (by omega)]))
            have HFB := Lib.hid (show Q.fs 3 = flat (spell kk t) from (HCA.out.b).trans (by rw [hv_pos (by omega)]))
            have HFK := Lib.hid (show (Q.fs 2).now = spell kk t by rw [HFA.out]; rfl)
            have HFS := Lib.hid (show (Q.fs 2).now = (Q.fs 2).sure by rw [HFA.out]; rfl)
            have hsp := spell_size kk t
            have hlt0 : 0 < (spell kk t).size := by omega
            have hls : (spell kk t).size ≤ 100 := by have := spell_le kk t; omega
            have m0 := Int.emod_nonneg at_ (show ((spell kk t).size : Int) ≠ 0 by omega)
            have m1 := Int.emod_lt_of_pos at_ (show 0 < ((spell kk t).size : Int) by omega)
            have r1 := Int.tmod_lt_of_pos at_ (show 0 < ((spell kk t).size : Int) by omega)
            have r2 := Int.lt_tmod_of_pos at_ (show 0 < ((spell kk t).size : Int) by omega)
            have EM := Lib.hid (tmod_em2 at_ ((spell kk t).size : Int) (by omega))
            obtain ⟨m, hm⟩ : ∃ m, at_ % ((spell kk t).size : Int) = m := ⟨_, rfl⟩
            rw [hm] at EM m0 m1
            have hmm : m = ((m.toNat : Nat) : Int) := by omega
            have HSPL := Lib.hid (spoil_flat (d := Q) (k := 2) (n := m.toNat) (UInt8.ofNat y) (by decide) HFA.out (by omega))
            have HY := Lib.hid (fun w (h : DkIs w d Q) => spoil_yes (b := d) 2 m.toNat y (by decide) HFS.out (by rw [HFK.out]; omega) hy w h)
            rw [HSPL.out, ← hmm] at HY
            have RD := Lib.hid (fun w (h : DkIs w d Q) => read_in 2 (by decide) w h)
            rw [HFK.out] at RD
            have hbd3 : Bd 100 (putF Q 2 (flat (Dk.flip (spell kk t) m.toNat (UInt8.ofNat y)))).fs := HCA.out.bd.upd 2 (by rw [flat_size, Dk.flip_size]; exact hls)
            have OP3 := Lib.hid (fun (hok : (putF Q 2 (flat (Dk.flip (spell kk t) m.toNat (UInt8.ofNat y)))).Ok) => open_spoilt hok hbd3 (by show 5 * 100 ≤ Q.room; rw [HCA.out.room]; decide) HCA.out.fail (f := 2) (g := 3) rfl (by decide) (v := kk) (t := t) (a := Dk.flip (spell kk t) m.toNat (UInt8.ofNat y)) (b := spell kk t) (by omega) (by omega) (by omega) (putF_same _ _ _) ((putF_other _ _ _ _ (by decide)).trans HFB.out) (.inr ⟨rfl, parse_flip kk t m.toNat (UInt8.ofNat y) (by omega)⟩))
            have HB3 := Lib.hid hbd3
            have m2 : m < 100 := by omega
            clear hm m1 hmm hbd3 hsp
            generalize putF Q 2 (flat (Dk.flip (spell kk t) m.toNat (UInt8.ofNat y))) = Q3 at *
            clear HSPL HFK HFS HFA HFB
            generalize spell kk t = z at *
            have hkw : IntKind.u64.wrap (kk : Int) = (kk : Int) := IntWalk.u64_in _ (by omega)
            have htt : (t.toList == t.toList) = true := by simp
            have hne2 : (z.size : Int) ≠ 0 := by omega
            have hne3 : z.size ≠ 0 := by omega
            go_wp2_with fail
            refine (RD.out _ HD.out).mono ?_
            rintro e wa ⟨rfl, hga⟩
            have HDa := Lib.hid (HD.out.gr hga)
            have HGa := Lib.hid (HG.out.trans hga)
            have HCa := Lib.hid (HC.out.gr hga)
            clear hga
            go_wp2_with (simp only [EM.out]; refine (HY.out _ HDa.out).mono ?_; rintro e wb ⟨rfl, hdb, hsb⟩)
            have HDb := Lib.hid hdb
            have HGb := Lib.hid (hsb.gr HGa.out HDW.out)
            obtain ⟨Q4, ho4⟩ := OP3.out hdb.ok
            have HO4 := Lib.hid ho4
            clear hdb hsb ho4
            go_wp2_with fail
            refine (open_to (B := 100) (f := 2) (g := 3) _ HDb.out HB3.out (by decide) rfl (by decide) HO4.out).mono ?_
            rintro e wc ⟨cc, rfl, hcwc, hclc, hdc, hsc⟩
            have HCc := Lib.hid hclc
            have HGc := Lib.hid (hsc.gr HGb.out HDW.out)
            clear hcwc hclc hdc hsc
            go_wp2_with fail
            refine (version_any _ HCc.out).mono ?_
            rintro e wd ⟨rfl, rfl⟩
            go_wp2
            go_ret
            exact ⟨rfl, HGc.out⟩
          · skip
            have HFA := Lib.hid (show Q.fs 2 = flat (spell kk t) from (HCA.out.a).trans (by rw [hv_pos (by omega)]))
            have HFB := Lib.hid (show Q.fs 3 = flat (spell kk t) from (HCA.out.b).trans (by rw [hv_pos (by omega)]))
            have HFK := Lib.hid (show (Q.fs 3).now = spell kk t by rw [HFB.out]; rfl)
            have HFS := Lib.hid (show (Q.fs 3).now = (Q.fs 3).sure by rw [HFB.out]; rfl)
            have hsp := spell_size kk t
            have hlt0 : 0 < (spell kk t).size := by omega
            have hls : (spell kk t).size ≤ 100 := by have := spell_le kk t; omega
            have m0 := Int.emod_nonneg at_ (show ((spell kk t).size : Int) ≠ 0 by omega)
            have m1 := Int.emod_lt_of_pos at_ (show 0 < ((spell kk t).size : Int) by omega)
            have r1 := Int.tmod_lt_of_pos at_ (show 0 < ((spell kk t).size : Int) by omega)
            have r2 := Int.lt_tmod_of_pos at_ (show 0 < ((spell kk t).size : Int) by omega)
            have EM := Lib.hid (tmod_em2 at_ ((spell kk t).size : Int) (by omega))
            obtain ⟨m, hm⟩ : ∃ m, at_ % ((spell kk t).size : Int) = m := ⟨_, rfl⟩
            rw [hm] at EM m0 m1
            have hmm : m = ((m.toNat : Nat) : Int) := by omega
            have HSPL := Lib.hid (spoil_flat (d := Q) (k := 3) (n := m.toNat) (UInt8.ofNat y) (by decide) HFB.out (by omega))
            have HY := Lib.hid (fun w (h : DkIs w d Q) => spoil_yes (b := d) 3 m.toNat y (by decide) HFS.out (by rw [HFK.out]; omega) hy w h)
            rw [HSPL.out, ← hmm] at HY
            have RD := Lib.hid (fun w (h : DkIs w d Q) => read_in 3 (by decide) w h)
            rw [HFK.out] at RD
            have hbd3 : Bd 100 (putF Q 3 (flat (Dk.flip (spell kk t) m.toNat (UInt8.ofNat y)))).fs := HCA.out.bd.upd 3 (by rw [flat_size, Dk.flip_size]; exact hls)
            have OP3 := Lib.hid (fun (hok : (putF Q 3 (flat (Dk.flip (spell kk t) m.toNat (UInt8.ofNat y)))).Ok) => open_spoilt hok hbd3 (by show 5 * 100 ≤ Q.room; rw [HCA.out.room]; decide) HCA.out.fail (f := 2) (g := 3) rfl (by decide) (v := kk) (t := t) (a := spell kk t) (b := Dk.flip (spell kk t) m.toNat (UInt8.ofNat y)) (by omega) (by omega) (by omega) ((putF_other _ _ _ _ (by decide)).trans HFA.out) (putF_same _ _ _) (.inl ⟨rfl, parse_flip kk t m.toNat (UInt8.ofNat y) (by omega)⟩))
            have HB3 := Lib.hid hbd3
            have m2 : m < 100 := by omega
            clear hm m1 hmm hbd3 hsp
            generalize putF Q 3 (flat (Dk.flip (spell kk t) m.toNat (UInt8.ofNat y))) = Q3 at *
            clear HSPL HFK HFS HFA HFB
            generalize spell kk t = z at *
            have hkw : IntKind.u64.wrap (kk : Int) = (kk : Int) := IntWalk.u64_in _ (by omega)
            have htt : (t.toList == t.toList) = true := by simp
            have hne2 : (z.size : Int) ≠ 0 := by omega
            have hne3 : z.size ≠ 0 := by omega
            go_wp2_with fail
            refine (RD.out _ HD.out).mono ?_
            rintro e wa ⟨rfl, hga⟩
            have HDa := Lib.hid (HD.out.gr hga)
            have HGa := Lib.hid (HG.out.trans hga)
            have HCa := Lib.hid (HC.out.gr hga)
            clear hga
            go_wp2_with (simp only [EM.out]; refine (HY.out _ HDa.out).mono ?_; rintro e wb ⟨rfl, hdb, hsb⟩)
            have HDb := Lib.hid hdb
            have HGb := Lib.hid (hsb.gr HGa.out HDW.out)
            obtain ⟨Q4, ho4⟩ := OP3.out hdb.ok
            have HO4 := Lib.hid ho4
            clear hdb hsb ho4
            go_wp2_with fail
            refine (open_to (B := 100) (f := 2) (g := 3) _ HDb.out HB3.out (by decide) rfl (by decide) HO4.out).mono ?_
            rintro e wc ⟨cc, rfl, hcwc, hclc, hdc, hsc⟩
            have HCc := Lib.hid hclc
            have HGc := Lib.hid (hsc.gr HGb.out HDW.out)
            clear hcwc hclc hdc hsc
            go_wp2_with fail
            refine (version_any _ HCc.out).mono ?_
            rintro e wd ⟨rfl, rfl⟩
            go_wp2
            go_ret
            exact ⟨rfl, HGc.out⟩
end Go.Proofs.Ytfcfbecfamemlaa
