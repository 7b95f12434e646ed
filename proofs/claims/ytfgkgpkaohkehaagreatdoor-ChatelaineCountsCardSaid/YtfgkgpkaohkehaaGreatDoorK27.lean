import Derived.Test.YtfgkgpkaohkehaaGreatDoorK26
import Derived.Test.YtfgkgpkaohkehaaGreatDoorK23
import Derived.WalkKit
import Derived.ProofKit
import Derived.LoopTactic
import Derived.Outline
import Derived.WalkSpells
import Derived.WalkLawsBesides
import Derived.Lib.Hide
import Derived.Deep.LoopGhost
import Derived.Deep.QuietTactic
import Derived.BigQuiet
import Derived.ShutString
import Derived.IntWalk
import Derived.Deep.MidRow
import Derived.Deep.CutRange
import Derived.Test.YtfgkgpkaohkehaaGreatDoorF02f
import Derived.Test.YtfgkgpkaohkehaaGreatDoorK24
import Derived.Deep.RegionHeld3
namespace Go.Proofs.YtfgkgpkaohkehaaGreatDoor
open Go.ChangeShapes Go.WideShapes Go.ChangeAt Go.RowKit
open Enc Bal
set_option linter.unusedVariables false
set_option linter.unusedSimpArgs false
theorem open_size {s t : ByteArray} {k n : Nat} (h : openB s = (k, t, n)) : t.size ≤ s.size := by
  unfold openB at h
  repeat' split at h
  all_goals (simp only [Prod.mk.injEq] at h; obtain ⟨_, h2, _⟩ := h; rw [← h2]; first | (simp; done) | (simp; omega) | exact Nat.zero_le _)
theorem open_kind {s t : ByteArray} {k n : Nat} (h : openB s = (k, t, n)) (h0 : n = 0) : 1 ≤ k ∧ k < 256 ∧ t.size + 8 ≤ s.size := by
  have hb := bt_lt s 0
  unfold openB at h
  split at h
  · simp only [Prod.mk.injEq] at h; omega
  · split at h
    · simp only [Prod.mk.injEq] at h; omega
    · split at h
      · simp only [Prod.mk.injEq] at h; omega
      · split at h
        · simp only [Prod.mk.injEq] at h; omega
        · split at h
          · simp only [Prod.mk.injEq] at h; omega
          · rename_i h1 h2 h3 h4 h5
            simp only [Prod.mk.injEq] at h
            obtain ⟨e1, e2, _⟩ := h
            refine ⟨by omega, by omega, ?_⟩
            rw [← e2]; simp; omega
set_option maxRecDepth 100000 in
set_option maxHeartbeats 8000000 in
theorem parse10_any (s : ByteArray) (hs : s.size ≤ 1000000) (w : World) :
    Calls Tryz.prog 9 #[.string s] w fun e w' => ∃ a q, e = .returned (.tuple #[.agg #[.int .i64 (parseM s).2.kd, .int .i64 (parseM s).2.frm, .int .i64 (parseM s).2.tt, .int .i64 (parseM s).2.sub, .int .u64 (parseM s).2.c, .int .i64 (parseM s).2.n, .int .i64 (parseM s).2.slot, .int .i64 (parseM s).2.time, .bool (parseM s).2.ok, .string (parseM s).2.text, .slice a (parseM s).2.L.length q], .int .i64 ((parseM s).1 : Nat)]) ∧ Gr w w' ∧ Hid (ORow 74 w' (parseM s).2.L a q) := by
  obtain ⟨kd, p, en, hO⟩ : ∃ a b c, openB s = (a, b, c) := ⟨_, _, _, rfl⟩
  have OP := Lib.hid fun w9 => (open_any s w9 (by omega)).mono fun e w' h => open_is hO h
  have hpr := open_size hO
  have hkd := open_kind hO
  obtain ⟨P, hP⟩ : ∃ P, P = parseM s := ⟨_, rfl⟩
  rw [← hP]
  unfold parseM at hP
  rw [hO] at hP
  simp only at hP
  have HG := Lib.hid ((Gr.refl w).alloc (.cells #[.int .i64 0, .int .i64 0, .int .i64 0, .int .i64 0, .int .u64 0, .int .i64 0, .int .i64 0, .int .i64 0, .bool false, .string ⟨#[]⟩, .slice none 0 0] 41))
  have HQ := Lib.hid (Blk.new w #[.int .i64 0, .int .i64 0, .int .i64 0, .int .i64 0, .int .u64 0, .int .i64 0, .int .i64 0, .int .i64 0, .bool false, .string ⟨#[]⟩, .slice none 0 0] 41)
  have HWQ := Lib.hid (Nat.le_refl w.heap.size)
  go_enter Tryz.func9, Tryz.ntmps9
  go_wp2_with fail
  generalize w.alloc (.cells #[.int .i64 0, .int .i64 0, .int .i64 0, .int .i64 0, .int .u64 0, .int .i64 0, .int .i64 0, .int .i64 0, .bool false, .string ⟨#[]⟩, .slice none 0 0] 41) = wa at *
  refine (OP.out _).mono ?_
  rintro e w1 ⟨rfl, hg⟩
  replace HG := Lib.hid (HG.out.trans hg)
  replace HQ := Lib.hid (HQ.out.gr hg)
  clear hg OP
  by_cases h0 : en = 0
  case neg =>
    rw [if_pos h0] at hP
    have t0 : ((en : Int) != 0) = true := by simp; omega
    have HP := Lib.hid hP
    clear hP h0 hO hkd
    go_upto_region 3 with fail
    obtain ⟨ms, hms, hmsl, hT, hO, hgr, hBl⟩ := blk_put HQ.out #[.int .i64 0, .int .i64 0, .int .i64 0, .int .i64 0, .int .u64 0, .int .i64 0, .int .i64 0, .int .i64 0, .bool false, .string ⟨#[]⟩, .slice none 0 0] rfl (eleven_one _ _ _ _ _ _ _ _ _ _ _ _ _)
    have HGF := Lib.hid (gr_put HG.out hgr HWQ.out)
    have HMS := Lib.hid hms
    have HML := Lib.hid hmsl
    have HTT := Lib.hid hT
    have HO2 := Lib.hid hO
    have y0 := hBl.cell (i := 0) rfl
    have y1 := hBl.cell (i := 1) rfl
    have y2 := hBl.cell (i := 2) rfl
    have y3 := hBl.cell (i := 3) rfl
    have y4 := hBl.cell (i := 4) rfl
    have y5 := hBl.cell (i := 5) rfl
    have y6 := hBl.cell (i := 6) rfl
    have y7 := hBl.cell (i := 7) rfl
    have y8 := hBl.cell (i := 8) rfl
    have y9 := hBl.cell (i := 9) rfl
    have y10 := hBl.cell (i := 10) rfl
    clear hms hmsl hT hO hgr hBl HQ HG
    go_wp2_with (first | (refine wpList_store_mid rfl 41 (.tmp 2) (.tmp 18) (by rfl) w.heap.size 0 ms.toArray (by rfl) (by exact HMS.out) HTT.out (by rw [HML.out]; kernel_rfl) HO2.out ?_))
    refine bodyPost_ret (v := .tuple #[.agg #[.int .i64 0, .int .i64 0, .int .i64 0, .int .i64 0, .int .u64 0, .int .i64 0, .int .i64 0, .int .i64 0, .bool false, .string ⟨#[]⟩, .slice none 0 0], .int .i64 (en : Int)]) (by simp [results, Tryz.results9, go_sem, y0, y1, y2, y3, y4, y5, y6, y7, y8, y9, y10]; try rfl) rfl ?_
    exact ⟨none, 0, by rw [HP.out]; rfl, HGF.out, Lib.hid (by rw [HP.out]; exact ⟨w.heap.size, World.ownsRow_nil _ _ _ _⟩)⟩
  case pos =>
    subst h0
    rw [if_neg (by simp)] at hP
    have hk := hkd rfl
    have IK := Lib.hid (isKind_any (kd : Int))
    by_cases h1 : 13 < kd
    case pos =>
      rw [if_pos h1] at hP
      have HP := Lib.hid hP
      rw [show (decide ((1 : Int) ≤ (kd : Int)) && decide ((kd : Int) ≤ 13)) = false by simp; omega] at IK
      clear hP hO hkd
      go_wp2_with fail
      refine (IK.out _).mono ?_
      rintro e w2 ⟨rfl, hg⟩
      replace HG := Lib.hid (HG.out.trans hg)
      replace HQ := Lib.hid (HQ.out.gr hg)
      clear hg IK
      go_upto_region 5 with fail
      obtain ⟨ms, hms, hmsl, hT, hO, hgr, hBl⟩ := blk_put HQ.out #[.int .i64 0, .int .i64 0, .int .i64 0, .int .i64 0, .int .u64 0, .int .i64 0, .int .i64 0, .int .i64 0, .bool false, .string ⟨#[]⟩, .slice none 0 0] rfl (eleven_one _ _ _ _ _ _ _ _ _ _ _ _ _)
      have HGF := Lib.hid (gr_put HG.out hgr HWQ.out)
      have HMS := Lib.hid hms
      have HML := Lib.hid hmsl
      have HTT := Lib.hid hT
      have HO2 := Lib.hid hO
      have y0 := hBl.cell (i := 0) rfl
      have y1 := hBl.cell (i := 1) rfl
      have y2 := hBl.cell (i := 2) rfl
      have y3 := hBl.cell (i := 3) rfl
      have y4 := hBl.cell (i := 4) rfl
      have y5 := hBl.cell (i := 5) rfl
      have y6 := hBl.cell (i := 6) rfl
      have y7 := hBl.cell (i := 7) rfl
      have y8 := hBl.cell (i := 8) rfl
      have y9 := hBl.cell (i := 9) rfl
      have y10 := hBl.cell (i := 10) rfl
      clear hms hmsl hT hO hgr hBl HQ HG
      go_wp2_with (first | (refine wpList_store_mid rfl 41 (.tmp 2) (.tmp 24) (by rfl) w.heap.size 0 ms.toArray (by rfl) (by exact HMS.out) HTT.out (by rw [HML.out]; kernel_rfl) HO2.out ?_))
      refine bodyPost_ret (v := .tuple #[.agg #[.int .i64 0, .int .i64 0, .int .i64 0, .int .i64 0, .int .u64 0, .int .i64 0, .int .i64 0, .int .i64 0, .bool false, .string ⟨#[]⟩, .slice none 0 0], .int .i64 1]) (by simp [results, Tryz.results9, go_sem, y0, y1, y2, y3, y4, y5, y6, y7, y8, y9, y10]; try rfl) rfl ?_
      exact ⟨none, 0, by rw [HP.out]; rfl, HGF.out, Lib.hid (by rw [HP.out]; exact ⟨w.heap.size, World.ownsRow_nil _ _ _ _⟩)⟩
    case neg =>
      rw [if_neg h1] at hP
      rw [show (decide ((1 : Int) ≤ (kd : Int)) && decide ((kd : Int) ≤ 13)) = true by simp; omega] at IK
      obtain ⟨r1, e1, frm, r2, e2, tt, r3, e3, sub, r4, e4, c, n, r5, e5, slot, r6, e6, time, r7, e7, ok, r8, e8, text, r9, e9, cnt, q1, q2, q3, q4, q5, q6, q7, q8, q9, hH, l1, l2, l3, l4, l5, l6, l7, l8, l9, hc⟩ := headR_ways p
      have hps : p.size ≤ 1000000 := by omega
      have RD := Lib.hid fun pp w9 (h : RdIs w9 pp p 0) => read10_any q1 q2 q3 q4 q5 q6 q7 q8 q9 (by omega) (by omega) hc w9 h
      have hin : inR p = entsR r9 e9 cnt := by unfold inR; rw [hH]
      rw [hin, hH] at hP
      have hll := entsR_len r9 e9 cnt
      have hrs := entsR_left r9 e9 cnt
      have HC := Lib.hid fun w9 => read_any p w9 (by omega)
      clear q1 q2 q3 q4 q5 q6 q7 q8 q9 l1 l2 l3 l4 l5 l6 l7 l8 hH hin hkd hO
      generalize entsR r9 e9 cnt = S at *
      obtain ⟨rk, ek, lk, L⟩ := S
      simp only at hP hll hrs RD
      subst hll
      go_wp2_with fail
      refine (IK.out _).mono ?_
      rintro e w2 ⟨rfl, hg⟩
      replace HG := Lib.hid (HG.out.trans hg)
      replace HQ := Lib.hid (HQ.out.gr hg)
      clear hg IK
      go_wp2_with fail
      refine (HC.out _).mono ?_
      rintro e w3 ⟨rfl, hR3, hg3⟩
      have HWP := Lib.hid (show w.heap.size ≤ w2.heap.size from HG.out.size)
      have hqp : w.heap.size ≠ w2.heap.size := by have := HQ.out.lt; omega
      replace HG := Lib.hid (HG.out.trans hg3)
      replace HQ := Lib.hid (HQ.out.gr hg3)
      have HR := Lib.hid hR3
      clear hR3 hg3 HC
      generalize w2.heap.size = pp at *
      go_wp2_with fail
      have hp3 : pp < w3.heap.size := cell_lt HR.out.1
      refine (RD.out pp _ HR.out).mono ?_
      rintro e w4 ⟨la, lq, rfl, hR4, hO4, hS4⟩
      have hq4 : w.heap.size < w4.heap.size := Nat.lt_of_lt_of_le HQ.out.lt hO4.size
      have hp4 : pp < w4.heap.size := cell_lt hR4.1
      have HWM := Lib.hid (Nat.le_of_lt hq4)
      have hqm : w.heap.size ≠ w4.heap.size := Nat.ne_of_lt hq4
      have hmp : w4.heap.size ≠ pp := Ne.symm (Nat.ne_of_lt hp4)
      have HA := (Gr.refl w4).alloc (.cells #[.int .i64 0, .int .i64 (frm : Int), .int .i64 (tt : Int), .int .i64 (sub : Int), .int .u64 (c : Int), .int .i64 (n : Int), .int .i64 (slot : Int), .int .i64 (time : Int), .bool ok, .string text, .slice la L.length lq] 41)
      replace HG := Lib.hid ((hO4.gr HG.out HWP.out).trans HA)
      replace HQ := Lib.hid ((HQ.out.only hO4 hqp).gr HA)
      replace HR := Lib.hid (hR4.gr HA)
      have HS := Lib.hid (ownsRow_gr HA hS4)
      have HB := Lib.hid (Nat.le_trans HG.out.size (Nat.le_refl _))
      have HM := Lib.hid (Blk.new w4 #[.int .i64 0, .int .i64 (frm : Int), .int .i64 (tt : Int), .int .i64 (sub : Int), .int .u64 (c : Int), .int .i64 (n : Int), .int .i64 (slot : Int), .int .i64 (time : Int), .bool ok, .string text, .slice la L.length lq] 41)
      have hsp : (Value.slice la L.length lq).ownBlock ≠ some pp := fun e => by have := (hS4.lt pp e).1; omega
      clear hR4 hO4 hS4 HA RD hq4 hp4 hp3
      have HD := Lib.hid fun w9 (h : RdIs w9 pp rk ek) => rDone_any pp rk ek w9 h
      generalize doneE rk ek = dd at *
      go_wp2_with fail
      generalize w4.alloc (.cells #[.int .i64 0, .int .i64 (frm : Int), .int .i64 (tt : Int), .int .i64 (sub : Int), .int .u64 (c : Int), .int .i64 (n : Int), .int .i64 (slot : Int), .int .i64 (time : Int), .bool ok, .string text, .slice la L.length lq] 41) = w5 at *
      generalize w4.heap.size = pm at *
      refine (HD.out _ HR.out).mono ?_
      rintro e w6 ⟨rfl, hR6, hO6⟩
      replace HG := Lib.hid (hO6.gr HG.out HWP.out)
      replace HQ := Lib.hid (HQ.out.only hO6 hqp)
      replace HM := Lib.hid (HM.out.only hO6 hmp)
      replace HS := Lib.hid (ownsRow_only HS.out hO6 hsp)
      clear hR6 hO6 HD HR
      by_cases h2 : dd = 0
      case neg =>
        rw [if_pos h2] at hP
        have t0 : ((dd : Int) != 0) = true := by simp; omega
        have HP := Lib.hid hP
        clear hP h2 HM HS
        go_upto_region 10 with fail
        obtain ⟨ms, hms, hmsl, hT, hO, hgr, hBl⟩ := blk_put HQ.out #[.int .i64 0, .int .i64 0, .int .i64 0, .int .i64 0, .int .u64 0, .int .i64 0, .int .i64 0, .int .i64 0, .bool false, .string ⟨#[]⟩, .slice none 0 0] rfl (eleven_one _ _ _ _ _ _ _ _ _ _ _ _ _)
        have HGF := Lib.hid (gr_put HG.out hgr HWQ.out)
        have HMS := Lib.hid hms
        have HML := Lib.hid hmsl
        have HTT := Lib.hid hT
        have HO2 := Lib.hid hO
        have y0 := hBl.cell (i := 0) rfl
        have y1 := hBl.cell (i := 1) rfl
        have y2 := hBl.cell (i := 2) rfl
        have y3 := hBl.cell (i := 3) rfl
        have y4 := hBl.cell (i := 4) rfl
        have y5 := hBl.cell (i := 5) rfl
        have y6 := hBl.cell (i := 6) rfl
        have y7 := hBl.cell (i := 7) rfl
        have y8 := hBl.cell (i := 8) rfl
        have y9 := hBl.cell (i := 9) rfl
        have y10 := hBl.cell (i := 10) rfl
        clear hms hmsl hT hO hgr hBl HQ HG
        go_wp2_with (first | (refine wpList_store_mid rfl 41 (.tmp 2) (.tmp 33) (by rfl) w.heap.size 0 ms.toArray (by rfl) (by exact HMS.out) HTT.out (by rw [HML.out]; kernel_rfl) HO2.out ?_))
        refine bodyPost_ret (v := .tuple #[.agg #[.int .i64 0, .int .i64 0, .int .i64 0, .int .i64 0, .int .u64 0, .int .i64 0, .int .i64 0, .int .i64 0, .bool false, .string ⟨#[]⟩, .slice none 0 0], .int .i64 (dd : Int)]) (by simp [results, Tryz.results9, go_sem, y0, y1, y2, y3, y4, y5, y6, y7, y8, y9, y10]; try rfl) rfl ?_
        exact ⟨none, 0, by rw [HP.out]; rfl, HGF.out, Lib.hid (by rw [HP.out]; exact ⟨w.heap.size, World.ownsRow_nil _ _ _ _⟩)⟩
      case pos =>
        subst h2
        rw [if_neg (by simp)] at hP
        by_cases h3 : p.size + 8 < s.size
        case pos =>
          rw [if_pos h3] at hP
          have h3' : (p.size : Int) + 8 < (s.size : Int) := by omega
          have HP := Lib.hid hP
          clear hP h3 HM HS
          go_upto_region 12 with fail
          obtain ⟨ms, hms, hmsl, hT, hO, hgr, hBl⟩ := blk_put HQ.out #[.int .i64 0, .int .i64 0, .int .i64 0, .int .i64 0, .int .u64 0, .int .i64 0, .int .i64 0, .int .i64 0, .bool false, .string ⟨#[]⟩, .slice none 0 0] rfl (eleven_one _ _ _ _ _ _ _ _ _ _ _ _ _)
          have HGF := Lib.hid (gr_put HG.out hgr HWQ.out)
          have HMS := Lib.hid hms
          have HML := Lib.hid hmsl
          have HTT := Lib.hid hT
          have HO2 := Lib.hid hO
          have y0 := hBl.cell (i := 0) rfl
          have y1 := hBl.cell (i := 1) rfl
          have y2 := hBl.cell (i := 2) rfl
          have y3 := hBl.cell (i := 3) rfl
          have y4 := hBl.cell (i := 4) rfl
          have y5 := hBl.cell (i := 5) rfl
          have y6 := hBl.cell (i := 6) rfl
          have y7 := hBl.cell (i := 7) rfl
          have y8 := hBl.cell (i := 8) rfl
          have y9 := hBl.cell (i := 9) rfl
          have y10 := hBl.cell (i := 10) rfl
          clear hms hmsl hT hO hgr hBl HQ HG
          go_wp2_with (first | (refine wpList_store_mid rfl 41 (.tmp 2) (.tmp 41) (by rfl) w.heap.size 0 ms.toArray (by rfl) (by exact HMS.out) HTT.out (by rw [HML.out]; kernel_rfl) HO2.out ?_))
          refine bodyPost_ret (v := .tuple #[.agg #[.int .i64 0, .int .i64 0, .int .i64 0, .int .i64 0, .int .u64 0, .int .i64 0, .int .i64 0, .int .i64 0, .bool false, .string ⟨#[]⟩, .slice none 0 0], .int .i64 4]) (by simp [results, Tryz.results9, go_sem, y0, y1, y2, y3, y4, y5, y6, y7, y8, y9, y10]; try rfl) rfl ?_
          exact ⟨none, 0, by rw [HP.out]; rfl, HGF.out, Lib.hid (by rw [HP.out]; exact ⟨w.heap.size, World.ownsRow_nil _ _ _ _⟩)⟩
        case neg =>
          rw [if_neg h3] at hP
          have h3' : ¬ (p.size : Int) + 8 < (s.size : Int) := by omega
          have HP := Lib.hid hP
          clear hP h3
          have f0 := HM.out.free 0
          have m0 := HM.out.cell (i := 0) rfl
          have HMO := HM
          replace HM := Lib.hid (show Blk _ _ #[.int .i64 (kd : Int), .int .i64 (frm : Int), .int .i64 (tt : Int), .int .i64 (sub : Int), .int .u64 (c : Int), .int .i64 (n : Int), .int .i64 (slot : Int), .int .i64 (time : Int), .bool ok, .string text, .slice la L.length lq] _ from HM.out.set 0 (.int .i64 (kd : Int)))
          replace HQ := Lib.hid (HQ.out.other hqm 0 (.int .i64 (kd : Int)))
          replace HG := Lib.hid (HG.out.setCell (p := ⟨pm, 0, none⟩) HWM.out (.int .i64 (kd : Int)))
          replace HS := Lib.hid (ownsRow_setCell_other (a := ⟨pm, 0, none⟩) HS.out (row_off HMO.out HS.out (by decide)) (.int .i64 (kd : Int)))
          have HWK := Lib.hid (show IntKind.i64.wrap (kd : Int) = kd by simp [IntKind.wrap, IntKind.bits, IntKind.signed]; omega)
          go_upto_region 14 with fail
          clear f0 m0 HMO
          generalize w6.setCell ⟨pm, 0, none⟩ (.int .i64 (kd : Int)) = w7 at *
          have m0 := HM.out.cell (i := 0) rfl
          have m1 := HM.out.cell (i := 1) rfl
          have m2 := HM.out.cell (i := 2) rfl
          have m3 := HM.out.cell (i := 3) rfl
          have m4 := HM.out.cell (i := 4) rfl
          have m5 := HM.out.cell (i := 5) rfl
          have m6 := HM.out.cell (i := 6) rfl
          have m7 := HM.out.cell (i := 7) rfl
          have m8 := HM.out.cell (i := 8) rfl
          have m9 := HM.out.cell (i := 9) rfl
          have m10 := HM.out.cell (i := 10) rfl
          obtain ⟨ms, hms, hmsl, hT, hOO, hgr, hBl⟩ := blk_put HQ.out #[.int .i64 (kd : Int), .int .i64 (frm : Int), .int .i64 (tt : Int), .int .i64 (sub : Int), .int .u64 (c : Int), .int .i64 (n : Int), .int .i64 (slot : Int), .int .i64 (time : Int), .bool ok, .string text, .slice la L.length lq] rfl (eleven_one _ _ _ _ _ _ _ _ _ _ _ _ _)
          have HGF := Lib.hid (gr_put HG.out hgr HWQ.out)
          have HSF := Lib.hid (HS.out.kept hgr (.inr (row_off HQ.out HS.out (by decide))))
          have HMS := Lib.hid hms
          have HML := Lib.hid hmsl
          have HTT := Lib.hid hT
          have HO2 := Lib.hid hOO
          have y0 := hBl.cell (i := 0) rfl
          have y1 := hBl.cell (i := 1) rfl
          have y2 := hBl.cell (i := 2) rfl
          have y3 := hBl.cell (i := 3) rfl
          have y4 := hBl.cell (i := 4) rfl
          have y5 := hBl.cell (i := 5) rfl
          have y6 := hBl.cell (i := 6) rfl
          have y7 := hBl.cell (i := 7) rfl
          have y8 := hBl.cell (i := 8) rfl
          have y9 := hBl.cell (i := 9) rfl
          have y10 := hBl.cell (i := 10) rfl
          clear hms hmsl hT hOO hgr hBl HG HQ HM HS
          go_wp2_with (first | (refine wpList_store_mid rfl 41 (.tmp 2) (.tmp 45) (by rfl) w.heap.size 0 ms.toArray (by rfl) (by exact HMS.out) HTT.out (by rw [HML.out]; kernel_rfl) HO2.out ?_))
          refine bodyPost_ret (v := .tuple #[.agg #[.int .i64 (kd : Int), .int .i64 (frm : Int), .int .i64 (tt : Int), .int .i64 (sub : Int), .int .u64 (c : Int), .int .i64 (n : Int), .int .i64 (slot : Int), .int .i64 (time : Int), .bool ok, .string text, .slice la L.length lq], .int .i64 0]) (by simp [results, Tryz.results9, go_sem, y0, y1, y2, y3, y4, y5, y6, y7, y8, y9, y10]; try rfl) rfl ?_
          exact ⟨la, lq, by rw [HP.out]; rfl, HGF.out, Lib.hid (by rw [HP.out]; exact ⟨_, HSF.out⟩)⟩
end Go.Proofs.YtfgkgpkaohkehaaGreatDoor
namespace Go.Proofs.YtfgkgpkaohkehaaGreatDoor
open Crc
set_option linter.unusedVariables false
set_option linter.unusedSimpArgs false
theorem bt_list (s : ByteArray) (i : Nat) : bt s i = ((bytesOf s).getD i 0).toNat := by
  unfold bt bytesOf
  by_cases h : i < s.size
  · rw [dif_pos h]
    have h' : i < s.data.toList.length := by simpa using h
    rw [List.getD_eq_getElem?_getD, List.getElem?_eq_getElem h']
    rfl
  · rw [dif_neg h]
    have h' : s.data.toList.length ≤ i := by simpa using h
    rw [List.getD_eq_getElem?_getD, List.getElem?_eq_none h']
    rfl
theorem rframe_size (k : Nat) (s : ByteArray) : (rframe k s).size = s.size + 8 := by
  unfold rframe rframeB
  rw [ByteArray.size_append, ByteArray.size_append, ByteArray.size_append, dig_size, dig_size]
  show 1 + 3 + s.size + 4 = _; omega
theorem extract_left (a b : ByteArray) : (a ++ b).extract 0 a.size = a := by
  apply ba_ext
  rw [bytesOf_extract, bytesOf_append, List.drop_zero, Nat.sub_zero, ← bytesOf_length a]
  exact List.take_left
theorem frame_bytes (k : Nat) (s m : ByteArray) : bytesOf (rframe k s ++ m) = b8 (k : Int) :: b8 (s.size / 65536 % 256 : Nat) :: b8 (s.size / 256 % 256 : Nat) :: b8 (s.size % 256 : Nat) :: (bytesOf s ++ (bytesOf (dig (4294967295 - crc 4294967295 (bytesOf (rframeB k s))) 4) ++ bytesOf m)) := by
  unfold rframe
  rw [bytesOf_append, bytesOf_append]
  unfold rframeB
  rw [bytesOf_append, bytesOf_append, dig3]
  simp [bytesOf]
theorem open_frame (k : Nat) (s m : ByteArray) (hk : k < 256) (hk1 : 1 ≤ k) (hs : s.size ≤ 1048576) : openB (rframe k s ++ m) = (k, s, 0) := by
  have hb := frame_bytes k s m
  have hz : (rframe k s ++ m).size = s.size + 8 + m.size := by rw [ByteArray.size_append, rframe_size]
  have b0 : bt (rframe k s ++ m) 0 = k := by rw [bt_list, hb]; simp only [List.getD_cons_zero]; exact b8_nat k hk
  have b1 : bt (rframe k s ++ m) 1 = s.size / 65536 % 256 := by rw [bt_list, hb]; simp only [List.getD_cons_succ, List.getD_cons_zero]; exact b8_nat _ (by omega)
  have b2 : bt (rframe k s ++ m) 2 = s.size / 256 % 256 := by rw [bt_list, hb]; simp only [List.getD_cons_succ, List.getD_cons_zero]; exact b8_nat _ (by omega)
  have b3 : bt (rframe k s ++ m) 3 = s.size % 256 := by rw [bt_list, hb]; simp only [List.getD_cons_succ, List.getD_cons_zero]; exact b8_nat _ (by omega)
  have hn : n3 (rframe k s ++ m) = s.size := by unfold n3; rw [b1, b2, b3]; omega
  have hx : (rframe k s ++ m).extract 4 (4 + s.size) = s := by
    apply ba_ext
    rw [bytesOf_extract, hb]
    have : 4 + s.size - 4 = (bytesOf s).length := by rw [bytesOf_length]; omega
    rw [this]
    exact List.take_left
  have hy : (rframe k s ++ m).extract 0 (s.size + 8) = rframe k s := by rw [← rframe_size k s]; exact extract_left _ _
  have hi := (rframe_iff (rframe k s ++ m) (by omega) (by rw [hn]; omega)).1 (by rw [b0, hn, hx, hy])
  rw [hn] at hi
  have c1 : ¬ (rframe k s ++ m).size < 4 := by omega
  have c2 : ¬ k = 0 := by omega
  have c3 : ¬ 1048576 < s.size := by omega
  have c4 : ¬ (rframe k s ++ m).size < s.size + 8 := by omega
  unfold openB
  rw [if_neg c1, b0, if_neg c2, hn, if_neg c3, if_neg c4, if_neg (not_not_intro hi), hx]
end Go.Proofs.YtfgkgpkaohkehaaGreatDoor
/- A message's bytes are read back: the model's Parse. -/
namespace Go.Proofs.YtfgkgpkaohkehaaGreatDoor
open Enc Bal
set_option linter.unusedVariables false
set_option linter.unusedSimpArgs false
theorem getS_back2 (R : ByteArray) (c m : Nat) (t : List UInt8) (hc : c < 18446744073709551616) (hm : m ≤ 11) (h0 : c = 0 → m = 0) (h : bytesOf R = encU c ++ (encN (m : Int) ++ t)) : getS R 0 = (ofL t, 0, c, m) := by
  have h1 := uS_back R c (encN (m : Int) ++ t) hc h
  have h2 : nS (ofL (encN (m : Int) ++ t)) 0 11 = (ofL t, 0, m) := nS_back _ m t 11 (by omega) (by omega) (by rw [bytesOf_ofL]; unfold encN; rw [show (max (m : Int) 0).toNat = m by omega])
  unfold getS
  rw [h1]
  simp only
  rw [h2]
  simp only [ne_eq, not_true_eq_false, if_false]
  rw [if_neg (by omega)]
theorem nS_back2 (R : ByteArray) (v most : Int) (t : List UInt8) (h0 : 0 ≤ v) (hm : v ≤ most) (hM : most ≤ 1099511627776) (h : bytesOf R = encN v ++ t) : nS R 0 most = (ofL t, 0, v.toNat) :=
  nS_back R v.toNat t most (by omega) (by omega) (by rw [h]; unfold encN; rw [show (max v 0).toNat = v.toNat by omega])
structure EFit (y : E) : Prop where
  slot : 0 ≤ y.slot ∧ y.slot ≤ 1099511627776
  c : 0 ≤ y.c ∧ y.c < 18446744073709551616
  n : 0 ≤ y.n ∧ y.n ≤ 11
  z : y.c = 0 → y.n = 0
  text : y.text.size ≤ 400
theorem entR_back (R : ByteArray) (y : E) (t : List UInt8) (last : Int) (hy : EFit y) (hl : last < y.slot) (h : bytesOf R = insE y ++ t) : entR R 0 last = (ofL t, 0, y) := by
  obtain ⟨ys, yc, yn, yt⟩ := y
  obtain ⟨h1, h2, h3, h4, h5⟩ := hy
  simp only [insE, List.append_assoc] at h h1 h2 h3 h4 h5 hl
  have e1 := nS_back2 R ys 1099511627776 _ h1.1 h1.2 (by decide) h
  have e2 := getS_back2 (ofL (encU yc.toNat ++ (encN yn ++ (Enc.encS (bytesOf yt) ++ t)))) yc.toNat yn.toNat (Enc.encS (bytesOf yt) ++ t) (by omega) (by omega) (by omega) (by rw [bytesOf_ofL, show ((yn.toNat : Nat) : Int) = yn by omega])
  have e3 := sS_back (ofL (Enc.encS (bytesOf yt) ++ t)) yt t 400 (by omega) (by omega) (bytesOf_ofL _)
  rw [entR_eq e1 (by rw [if_neg (by omega)]; exact e2) e3]
  simp only [Prod.mk.injEq, E.mk.injEq, true_and, and_true]
  omega
def slotB (L : List E) : Nat → Int
  | 0 => -1
  | k + 1 => (L[k]?.map E.slot).getD 0
theorem slotB_succ (L : List E) (k : Nat) (h : k < L.length) : slotB L (k + 1) = L[k].slot := by
  show (L[k]?.map E.slot).getD 0 = _
  rw [List.getElem?_eq_getElem h]; rfl
theorem entsR_back (R : ByteArray) (L : List E) (t : List UInt8) (hL : ∀ y ∈ L, EFit y) (hc : chainB L = true) (h : bytesOf R = L.flatMap insE ++ t) : ∀ k, k ≤ L.length → entsR R 0 k = ⟨ofL ((L.drop k).flatMap insE ++ t), 0, slotB L k, L.take k⟩
  | 0, _ => by rw [entsR]; simp only [List.drop_zero, List.take_zero, slotB]; rw [← h, ofL_bytes]
  | k + 1, hk => by
    have ih := entsR_back R L t hL hc h k (by omega)
    have hs : slotB L k < L[k].slot := by
      cases k with
      | zero => have := (hL L[0] (List.getElem_mem _)).slot; show (-1 : Int) < _; omega
      | succ j =>
        have := (chainB_iff L).1 hc j (by omega)
        rw [slotB_succ L j (by omega)]
        exact this
    rw [entsR, ih, entS]
    simp only
    rw [entR_back _ L[k] ((L.drop (k + 1)).flatMap insE ++ t) _ (hL _ (List.getElem_mem _)) hs (by rw [bytesOf_ofL, List.drop_eq_getElem_cons hk, List.flatMap_cons, List.append_assoc])]
    simp only [RdS.mk.injEq, true_and]
    refine ⟨?_, ?_⟩
    · exact (slotB_succ L k (by omega)).symm
    · rw [List.take_succ_eq_append_getElem (by omega)]
structure MFit (m : Mg) : Prop where
  kd : 1 ≤ m.kd ∧ m.kd ≤ 13
  frm : 0 ≤ m.frm ∧ m.frm ≤ 11
  tt : 0 ≤ m.tt ∧ m.tt ≤ 11
  sub : 0 ≤ m.sub ∧ m.sub ≤ 3
  c : 0 ≤ m.c ∧ m.c < 18446744073709551616
  n : 0 ≤ m.n ∧ m.n ≤ 11
  z : m.c = 0 → m.n = 0
  slot : 0 ≤ m.slot ∧ m.slot ≤ 1099511627776
  time : 0 ≤ m.time ∧ m.time ≤ 1099511627776
  text : m.text.size ≤ 131072
  len : m.L.length ≤ 64
  ent : ∀ y ∈ m.L, EFit y
  chain : chainB m.L = true
theorem Mg.fit {m : Mg} (hm : m.Sm) (hc : m.check = 0) : MFit m := by
  have k := checkOk hc
  unfold Mg.check checkM at hc
  by_cases h1 : kindB m.kd = true
  case neg => rw [if_neg h1] at hc; simp at hc
  rw [if_pos h1] at hc
  by_cases h2 : rangeB m.frm m.tt m.sub m.c m.n m.slot m.time m.L = true
  case neg => rw [if_neg h2] at hc; simp at hc
  rw [if_pos h2] at hc
  by_cases h3 : shortB m.text m.L = true
  case neg => rw [if_neg h3] at hc; simp at hc
  rw [if_pos h3] at hc
  by_cases h4 : chainB m.L = true
  case neg => rw [if_neg h4] at hc; simp at hc
  clear hc
  simp only [rangeB, Bool.and_eq_true, decide_eq_true_eq, upB_iff, balB, Bool.not_eq_true', List.any_eq_false, Bool.or_eq_true] at h2
  obtain ⟨a1, a2, a3, a4, a5, a6, a7⟩ := h2
  refine ⟨k.kd, k.frm, k.tt, k.sub, hm.c, k.n, by have := a4.2; omega, k.slot, k.time, k.text, k.len, fun y hy => ?_, h4⟩
  have e := k.ent y hy
  have e1 := a7 y hy
  have e2 := hm.ent y hy
  simp only [badE, balB, Bool.or_eq_true, Bool.not_eq_true', decide_eq_true_eq, not_or, Bool.not_eq_false, Bool.and_eq_true, upB_iff] at e1
  exact ⟨⟨e.1, e.2.1⟩, ⟨e2.2.1, e2.2.2.1⟩, ⟨e.2.2.1, e.2.2.2.1⟩, by have := e1.2.2; omega, e.2.2.2.2⟩
theorem headR_back (m : Mg) (hm : MFit m) (rest : List UInt8) :
    headR (ofL (inHead m.frm m.tt m.sub m.c.toNat m.n.toNat m.slot m.time m.ok m.text m.L.length ++ rest)) = ⟨ofL rest, 0, m.frm.toNat, m.tt.toNat, m.sub.toNat, m.c.toNat, m.n.toNat, m.slot.toNat, m.time.toNat, m.ok, m.text, m.L.length⟩ := by
  obtain ⟨k, f, t, s, c, n, sl, ti, ok, tx, L⟩ := m
  obtain ⟨p1, p2, p3, p4, p5, p6, p7, p8, p9, p10, p11, p12, p13⟩ := hm
  simp only at p1 p2 p3 p4 p5 p6 p7 p8 p9 p10 p11 p12 p13
  simp only [inHead, List.append_assoc]
  have e1 := nS_back2 (ofL (encN f ++ (encN t ++ (encN s ++ (encU c.toNat ++ (encN (n.toNat : Int) ++ (encN sl ++ (encN ti ++ (encB ok ++ (Enc.encS (bytesOf tx) ++ (encN (L.length : Int) ++ rest))))))))))) f 11 _ p2.1 p2.2 (by decide) (bytesOf_ofL _)
  have e2 := nS_back2 _ t 11 _ p3.1 p3.2 (by decide) (bytesOf_ofL (encN t ++ (encN s ++ (encU c.toNat ++ (encN (n.toNat : Int) ++ (encN sl ++ (encN ti ++ (encB ok ++ (Enc.encS (bytesOf tx) ++ (encN (L.length : Int) ++ rest))))))))))
  have e3 := nS_back2 _ s 3 _ p4.1 p4.2 (by decide) (bytesOf_ofL (encN s ++ (encU c.toNat ++ (encN (n.toNat : Int) ++ (encN sl ++ (encN ti ++ (encB ok ++ (Enc.encS (bytesOf tx) ++ (encN (L.length : Int) ++ rest)))))))))
  have e4 := getS_back2 _ c.toNat n.toNat _ (by omega) (by omega) (by omega) (bytesOf_ofL (encU c.toNat ++ (encN (n.toNat : Int) ++ (encN sl ++ (encN ti ++ (encB ok ++ (Enc.encS (bytesOf tx) ++ (encN (L.length : Int) ++ rest))))))))
  have e5 := nS_back2 _ sl 1099511627776 _ p8.1 p8.2 (by decide) (bytesOf_ofL (encN sl ++ (encN ti ++ (encB ok ++ (Enc.encS (bytesOf tx) ++ (encN (L.length : Int) ++ rest))))))
  have e6 := nS_back2 _ ti 1099511627776 _ p9.1 p9.2 (by decide) (bytesOf_ofL (encN ti ++ (encB ok ++ (Enc.encS (bytesOf tx) ++ (encN (L.length : Int) ++ rest)))))
  have e7 := bS_back _ ok _ (bytesOf_ofL (encB ok ++ (Enc.encS (bytesOf tx) ++ (encN (L.length : Int) ++ rest))))
  have e8 := sS_back _ tx _ 131072 (by omega) (by omega) (bytesOf_ofL (Enc.encS (bytesOf tx) ++ (encN (L.length : Int) ++ rest)))
  have e9 := nS_back2 _ (L.length : Int) 64 _ (by omega) (by omega) (by decide) (bytesOf_ofL (encN (L.length : Int) ++ rest))
  unfold headR
  simp only [e1, e2, e3, e4, e5, e6, e7, e8, e9, Int.toNat_natCast]
theorem done_nil : doneE (ofL []) 0 = 0 := by unfold doneE; rw [if_neg (by rw [ofL_size]; simp)]
theorem parse_bytes {m : Mg} (hm : m.Sm) (hc : m.check = 0) (x : ByteArray) : parseM (m.bytes ++ x) = if 0 < x.size then (4, Mg.zero) else (0, m) := by
  have hf := Mg.fit hm hc
  have hz := Mg.inside_size hm hc
  have hO := open_frame m.kd.toNat m.inside x (by have := hf.kd; omega) (by have := hf.kd; omega) (by omega)
  have hH := headR_back m hf (m.L.flatMap insE)
  have hE := entsR_back (ofL (m.L.flatMap insE)) m.L [] hf.ent hf.chain (by rw [bytesOf_ofL, List.append_nil]) m.L.length (Nat.le_refl _)
  rw [List.drop_length, List.take_length] at hE
  have hI : inR m.inside = ⟨ofL [], 0, slotB m.L m.L.length, m.L⟩ := by
    unfold inR Mg.inside inL
    rw [hH]
    exact hE
  have hN : headR m.inside = ⟨ofL (m.L.flatMap insE), 0, m.frm.toNat, m.tt.toNat, m.sub.toNat, m.c.toNat, m.n.toNat, m.slot.toNat, m.time.toNat, m.ok, m.text, m.L.length⟩ := hH
  have hs : (rframe m.kd.toNat m.inside ++ x).size = m.inside.size + 8 + x.size := by rw [ByteArray.size_append, rframe_size]
  rw [Mg.bytes_eq hm hc]
  unfold parseM
  rw [hO]
  simp only
  rw [hI, hN, hs, if_neg (by simp), if_neg (by have := hf.kd; omega)]
  simp only
  rw [done_nil, if_neg (by simp)]
  by_cases h0 : 0 < x.size
  · rw [if_pos h0, if_pos (by omega)]
  · rw [if_neg h0, if_neg (by omega)]
    simp only [Prod.mk.injEq, true_and]
    unfold mgOf
    obtain ⟨k, f, t, s, c, n, sl, ti, ok, tx, L⟩ := m
    obtain ⟨p1, p2, p3, p4, p5, p6, p7, p8, p9, p10, p11, p12, p13⟩ := hf
    simp only [Mg.mk.injEq, and_true] at *
    omega
end Go.Proofs.YtfgkgpkaohkehaaGreatDoor
namespace Go.Proofs.YtfgkgpkaohkehaaGreatDoor
open Go.ChangeShapes Go.WideShapes Go.ChangeAt Go.RowKit
open Enc Bal
set_option linter.unusedVariables false
set_option linter.unusedSimpArgs false
theorem app_none (s : ByteArray) : s ++ (⟨#[]⟩ : ByteArray) = s := eB (by rw [bytesOf_app]; simp [bytesOf])
theorem Mg.bytes_size {m : Mg} (hm : m.Sm) (hc : m.check = 0) : m.bytes.size ≤ 200008 := by
  have := Mg.inside_size hm hc
  rw [Mg.bytes_eq hm hc, rframe_size]; omega
theorem parse_back {m : Mg} (hm : m.Sm) (hc : m.check = 0) (w : World) :
    Calls Tryz.prog 9 #[.string m.bytes] w fun e w' => ∃ a q, e = .returned (.tuple #[.agg #[.int .i64 m.kd, .int .i64 m.frm, .int .i64 m.tt, .int .i64 m.sub, .int .u64 m.c, .int .i64 m.n, .int .i64 m.slot, .int .i64 m.time, .bool m.ok, .string m.text, .slice a m.L.length q], .int .i64 0]) ∧ Gr w w' ∧ Hid (ORow 74 w' m.L a q) := by
  have hz := Mg.bytes_size hm hc
  have hp := parse_bytes hm hc ⟨#[]⟩
  rw [if_neg (by decide), app_none] at hp
  have := parse10_any m.bytes (by omega) w
  rw [hp] at this
  exact this
theorem parse_long {m : Mg} (hm : m.Sm) (hc : m.check = 0) (w : World) :
    Calls Tryz.prog 9 #[.string (m.bytes ++ ⟨#[120]⟩)] w fun e w' => ∃ a q, e = .returned (.tuple #[.agg #[.int .i64 0, .int .i64 0, .int .i64 0, .int .i64 0, .int .u64 0, .int .i64 0, .int .i64 0, .int .i64 0, .bool false, .string ⟨#[]⟩, .slice a 0 q], .int .i64 4]) ∧ Gr w w' := by
  have hz := Mg.bytes_size hm hc
  have hp := parse_bytes hm hc ⟨#[120]⟩
  rw [if_pos (by decide)] at hp
  have := parse10_any (m.bytes ++ ⟨#[120]⟩) (by rw [ByteArray.size_append]; show m.bytes.size + 1 ≤ _; omega) w
  rw [hp] at this
  refine this.mono ?_
  rintro e w' ⟨a, q, h, hg, _⟩
  exact ⟨a, q, h, hg⟩