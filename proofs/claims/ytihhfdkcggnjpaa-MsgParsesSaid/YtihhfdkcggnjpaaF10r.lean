import Derived.Test.YtihhfdkcggnjpaaF10q
import Derived.Test.YtihhfdkcggnjpaaK8
import Derived.Test.YtihhfdkcggnjpaaF02g
import Derived.WalkKit
import Derived.ProofKit
import Derived.LoopTactic
import Derived.Outline
import Derived.WalkSpells
import Derived.WalkLawsBesides
import Derived.Lib.Hide
import Derived.Deep.LoopGhost
import Derived.Deep.QuietTactic
import Derived.BigQuiet
import Derived.ShutString
import Derived.IntWalk
import Derived.Deep.MidRow
import Derived.Deep.CutRange
namespace Go.Proofs.Ytihhfdkcggnjpaa
open Go.ChangeShapes Go.WideShapes Go.ChangeAt Go.RowKit
open Enc Bal
set_option linter.unusedVariables false
set_option linter.unusedSimpArgs false
theorem open_size {s t : ByteArray} {k n : Nat} (h : openB s = (k, t, n)) : t.size ≤ s.size := by
  unfold openB at h
  repeat' split at h
  all_goals (simp only [Prod.mk.injEq] at h; obtain ⟨_, h2, _⟩ := h; rw [← h2]; first | (simp; done) | (simp; omega) | exact Nat.zero_le _)
theorem open_kind {s t : ByteArray} {k n : Nat} (h : openB s = (k, t, n)) (h0 : n = 0) : 1 ≤ k ∧ k < 256 ∧ t.size + 8 ≤ s.size := by
  have hb := bt_lt s 0
  unfold openB at h
  split at h
  · simp only [Prod.mk.injEq] at h; omega
  · split at h
    · simp only [Prod.mk.injEq] at h; omega
    · split at h
      · simp only [Prod.mk.injEq] at h; omega
      · split at h
        · simp only [Prod.mk.injEq] at h; omega
        · split at h
          · simp only [Prod.mk.injEq] at h; omega
          · rename_i h1 h2 h3 h4 h5
            simp only [Prod.mk.injEq] at h
            obtain ⟨e1, e2, _⟩ := h
            refine ⟨by omega, by omega, ?_⟩
            rw [← e2]; simp; omega
set_option maxRecDepth 100000 in
set_option maxHeartbeats 8000000 in
theorem parse10_any (s : ByteArray) (hs : s.size ≤ 1000000) (w : World) :
    Calls Try.prog 46 #[.string s] w fun e w' => ∃ a q, e = .returned (.tuple #[.agg #[.int .i64 (parseM s).2.kd, .int .i64 (parseM s).2.frm, .int .i64 (parseM s).2.tt, .int .i64 (parseM s).2.sub, .int .u64 (parseM s).2.c, .int .i64 (parseM s).2.n, .int .i64 (parseM s).2.slot, .int .i64 (parseM s).2.time, .bool (parseM s).2.ok, .string (parseM s).2.text, .slice a (parseM s).2.L.length q], .int .i64 ((parseM s).1 : Nat)]) ∧ Gr w w' ∧ Hid (ORow 159 w' (parseM s).2.L a q) := by
  obtain ⟨kd, p, en, hO⟩ : ∃ a b c, openB s = (a, b, c) := ⟨_, _, _, rfl⟩
  have OP := Lib.hid fun w9 => (open_any s w9 (by omega)).mono fun e w' h => open_is hO h
  have hpr := open_size hO
  have hkd := open_kind hO
  obtain ⟨P, hP⟩ : ∃ P, P = parseM s := ⟨_, rfl⟩
  rw [← hP]
  unfold parseM at hP
  rw [hO] at hP
  simp only at hP
  have HG := Lib.hid ((Gr.refl w).alloc (.cells #[.int .i64 0, .int .i64 0, .int .i64 0, .int .i64 0, .int .u64 0, .int .i64 0, .int .i64 0, .int .i64 0, .bool false, .string ⟨#[]⟩, .slice none 0 0] 69))
  have HQ := Lib.hid (Blk.new w #[.int .i64 0, .int .i64 0, .int .i64 0, .int .i64 0, .int .u64 0, .int .i64 0, .int .i64 0, .int .i64 0, .bool false, .string ⟨#[]⟩, .slice none 0 0] 69)
  have HWQ := Lib.hid (Nat.le_refl w.heap.size)
  go_enter Try.func46, Try.ntmps46
  go_wp2_with fail
  generalize w.alloc (.cells #[.int .i64 0, .int .i64 0, .int .i64 0, .int .i64 0, .int .u64 0, .int .i64 0, .int .i64 0, .int .i64 0, .bool false, .string ⟨#[]⟩, .slice none 0 0] 69) = wa at *
  refine (OP.out _).mono ?_
  rintro e w1 ⟨rfl, hg⟩
  replace HG := Lib.hid (HG.out.trans hg)
  replace HQ := Lib.hid (HQ.out.gr hg)
  clear hg OP
  by_cases h0 : en = 0
  case neg =>
    rw [if_pos h0] at hP
    have t0 : ((en : Int) != 0) = true := by simp; omega
    have HP := Lib.hid hP
    clear hP h0 hO hkd
    go_upto_region 3 with fail
    obtain ⟨ms, hms, hmsl, hT, hO, hgr, hBl⟩ := blk_put HQ.out #[.int .i64 0, .int .i64 0, .int .i64 0, .int .i64 0, .int .u64 0, .int .i64 0, .int .i64 0, .int .i64 0, .bool false, .string ⟨#[]⟩, .slice none 0 0] rfl (eleven_one _ _ _ _ _ _ _ _ _ _ _ _ _)
    have HGF := Lib.hid (gr_put HG.out hgr HWQ.out)
    have HMS := Lib.hid hms
    have HML := Lib.hid hmsl
    have HTT := Lib.hid hT
    have HO2 := Lib.hid hO
    have y0 := hBl.cell (i := 0) rfl
    have y1 := hBl.cell (i := 1) rfl
    have y2 := hBl.cell (i := 2) rfl
    have y3 := hBl.cell (i := 3) rfl
    have y4 := hBl.cell (i := 4) rfl
    have y5 := hBl.cell (i := 5) rfl
    have y6 := hBl.cell (i := 6) rfl
    have y7 := hBl.cell (i := 7) rfl
    have y8 := hBl.cell (i := 8) rfl
    have y9 := hBl.cell (i := 9) rfl
    have y10 := hBl.cell (i := 10) rfl
    clear hms hmsl hT hO hgr hBl HQ HG
    go_wp2_with (first | (refine wpList_store_mid rfl 69 (.tmp 2) (.tmp 18) (by rfl) w.heap.size 0 ms.toArray (by rfl) (by exact HMS.out) HTT.out (by rw [HML.out]; kernel_rfl) HO2.out ?_))
    refine bodyPost_ret (v := .tuple #[.agg #[.int .i64 0, .int .i64 0, .int .i64 0, .int .i64 0, .int .u64 0, .int .i64 0, .int .i64 0, .int .i64 0, .bool false, .string ⟨#[]⟩, .slice none 0 0], .int .i64 (en : Int)]) (by simp [results, Try.results46, go_sem, y0, y1, y2, y3, y4, y5, y6, y7, y8, y9, y10]; try rfl) rfl ?_
    exact ⟨none, 0, by rw [HP.out]; rfl, HGF.out, Lib.hid (by rw [HP.out]; exact ⟨w.heap.size, World.ownsRow_nil _ _ _ _⟩)⟩
  case pos =>
    subst h0
    rw [if_neg (by simp)] at hP
    have hk := hkd rfl
    have IK := Lib.hid (isKind_any (kd : Int))
    by_cases h1 : 13 < kd
    case pos =>
      rw [if_pos h1] at hP
      have HP := Lib.hid hP
      rw [show (decide ((1 : Int) ≤ (kd : Int)) && decide ((kd : Int) ≤ 13)) = false by simp; omega] at IK
      clear hP hO hkd
      go_wp2_with fail
      refine (IK.out _).mono ?_
      rintro e w2 ⟨rfl, hg⟩
      replace HG := Lib.hid (HG.out.trans hg)
      replace HQ := Lib.hid (HQ.out.gr hg)
      clear hg IK
      go_upto_region 5 with fail
      obtain ⟨ms, hms, hmsl, hT, hO, hgr, hBl⟩ := blk_put HQ.out #[.int .i64 0, .int .i64 0, .int .i64 0, .int .i64 0, .int .u64 0, .int .i64 0, .int .i64 0, .int .i64 0, .bool false, .string ⟨#[]⟩, .slice none 0 0] rfl (eleven_one _ _ _ _ _ _ _ _ _ _ _ _ _)
      have HGF := Lib.hid (gr_put HG.out hgr HWQ.out)
      have HMS := Lib.hid hms
      have HML := Lib.hid hmsl
      have HTT := Lib.hid hT
      have HO2 := Lib.hid hO
      have y0 := hBl.cell (i := 0) rfl
      have y1 := hBl.cell (i := 1) rfl
      have y2 := hBl.cell (i := 2) rfl
      have y3 := hBl.cell (i := 3) rfl
      have y4 := hBl.cell (i := 4) rfl
      have y5 := hBl.cell (i := 5) rfl
      have y6 := hBl.cell (i := 6) rfl
      have y7 := hBl.cell (i := 7) rfl
      have y8 := hBl.cell (i := 8) rfl
      have y9 := hBl.cell (i := 9) rfl
      have y10 := hBl.cell (i := 10) rfl
      clear hms hmsl hT hO hgr hBl HQ HG
      go_wp2_with (first | (refine wpList_store_mid rfl 69 (.tmp 2) (.tmp 24) (by rfl) w.heap.size 0 ms.toArray (by rfl) (by exact HMS.out) HTT.out (by rw [HML.out]; kernel_rfl) HO2.out ?_))
      refine bodyPost_ret (v := .tuple #[.agg #[.int .i64 0, .int .i64 0, .int .i64 0, .int .i64 0, .int .u64 0, .int .i64 0, .int .i64 0, .int .i64 0, .bool false, .string ⟨#[]⟩, .slice none 0 0], .int .i64 1]) (by simp [results, Try.results46, go_sem, y0, y1, y2, y3, y4, y5, y6, y7, y8, y9, y10]; try rfl) rfl ?_
      exact ⟨none, 0, by rw [HP.out]; rfl, HGF.out, Lib.hid (by rw [HP.out]; exact ⟨w.heap.size, World.ownsRow_nil _ _ _ _⟩)⟩
    case neg =>
      rw [if_neg h1] at hP
      rw [show (decide ((1 : Int) ≤ (kd : Int)) && decide ((kd : Int) ≤ 13)) = true by simp; omega] at IK
      obtain ⟨r1, e1, frm, r2, e2, tt, r3, e3, sub, r4, e4, c, n, r5, e5, slot, r6, e6, time, r7, e7, ok, r8, e8, text, r9, e9, cnt, q1, q2, q3, q4, q5, q6, q7, q8, q9, hH, l1, l2, l3, l4, l5, l6, l7, l8, l9, hc⟩ := headR_ways p
      have hps : p.size ≤ 1000000 := by omega
      have RD := Lib.hid fun pp w9 (h : RdIs w9 pp p 0) => read10_any q1 q2 q3 q4 q5 q6 q7 q8 q9 (by omega) (by omega) hc w9 h
      have hin : inR p = entsR r9 e9 cnt := by unfold inR; rw [hH]
      rw [hin, hH] at hP
      have hll := entsR_len r9 e9 cnt
      have hrs := entsR_left r9 e9 cnt
      have HC := Lib.hid fun w9 => read_any p w9 (by omega)
      clear q1 q2 q3 q4 q5 q6 q7 q8 q9 l1 l2 l3 l4 l5 l6 l7 l8 hH hin hkd hO
      generalize entsR r9 e9 cnt = S at *
      obtain ⟨rk, ek, lk, L⟩ := S
      simp only at hP hll hrs RD
      subst hll
      go_wp2_with fail
      refine (IK.out _).mono ?_
      rintro e w2 ⟨rfl, hg⟩
      replace HG := Lib.hid (HG.out.trans hg)
      replace HQ := Lib.hid (HQ.out.gr hg)
      clear hg IK
      go_wp2_with fail
      refine (HC.out _).mono ?_
      rintro e w3 ⟨rfl, hR3, hg3⟩
      have HWP := Lib.hid (show w.heap.size ≤ w2.heap.size from HG.out.size)
      have hqp : w.heap.size ≠ w2.heap.size := by have := HQ.out.lt; omega
      replace HG := Lib.hid (HG.out.trans hg3)
      replace HQ := Lib.hid (HQ.out.gr hg3)
      have HR := Lib.hid hR3
      clear hR3 hg3 HC
      generalize w2.heap.size = pp at *
      go_wp2_with fail
      have hp3 : pp < w3.heap.size := cell_lt HR.out.1
      refine (RD.out pp _ HR.out).mono ?_
      rintro e w4 ⟨la, lq, rfl, hR4, hO4, hS4⟩
      have hq4 : w.heap.size < w4.heap.size := Nat.lt_of_lt_of_le HQ.out.lt hO4.size
      have hp4 : pp < w4.heap.size := cell_lt hR4.1
      have HWM := Lib.hid (Nat.le_of_lt hq4)
      have hqm : w.heap.size ≠ w4.heap.size := Nat.ne_of_lt hq4
      have hmp : w4.heap.size ≠ pp := Ne.symm (Nat.ne_of_lt hp4)
      have HA := (Gr.refl w4).alloc (.cells #[.int .i64 0, .int .i64 (frm : Int), .int .i64 (tt : Int), .int .i64 (sub : Int), .int .u64 (c : Int), .int .i64 (n : Int), .int .i64 (slot : Int), .int .i64 (time : Int), .bool ok, .string text, .slice la L.length lq] 69)
      replace HG := Lib.hid ((hO4.gr HG.out HWP.out).trans HA)
      replace HQ := Lib.hid ((HQ.out.only hO4 hqp).gr HA)
      replace HR := Lib.hid (hR4.gr HA)
      have HS := Lib.hid (ownsRow_gr HA hS4)
      have HB := Lib.hid (Nat.le_trans HG.out.size (Nat.le_refl _))
      have HM := Lib.hid (Blk.new w4 #[.int .i64 0, .int .i64 (frm : Int), .int .i64 (tt : Int), .int .i64 (sub : Int), .int .u64 (c : Int), .int .i64 (n : Int), .int .i64 (slot : Int), .int .i64 (time : Int), .bool ok, .string text, .slice la L.length lq] 69)
      have hsp : (Value.slice la L.length lq).ownBlock ≠ some pp := fun e => by have := (hS4.lt pp e).1; omega
      clear hR4 hO4 hS4 HA RD hq4 hp4 hp3
      have HD := Lib.hid fun w9 (h : RdIs w9 pp rk ek) => rDone_any pp rk ek w9 h
      generalize doneE rk ek = dd at *
      go_wp2_with fail
      generalize w4.alloc (.cells #[.int .i64 0, .int .i64 (frm : Int), .int .i64 (tt : Int), .int .i64 (sub : Int), .int .u64 (c : Int), .int .i64 (n : Int), .int .i64 (slot : Int), .int .i64 (time : Int), .bool ok, .string text, .slice la L.length lq] 69) = w5 at *
      generalize w4.heap.size = pm at *
      refine (HD.out _ HR.out).mono ?_
      rintro e w6 ⟨rfl, hR6, hO6⟩
      replace HG := Lib.hid (hO6.gr HG.out HWP.out)
      replace HQ := Lib.hid (HQ.out.only hO6 hqp)
      replace HM := Lib.hid (HM.out.only hO6 hmp)
      replace HS := Lib.hid (ownsRow_only HS.out hO6 hsp)
      clear hR6 hO6 HD HR
      by_cases h2 : dd = 0
      case neg =>
        rw [if_pos h2] at hP
        have t0 : ((dd : Int) != 0) = true := by simp; omega
        have HP := Lib.hid hP
        clear hP h2 HM HS
        go_upto_region 10 with fail
        obtain ⟨ms, hms, hmsl, hT, hO, hgr, hBl⟩ := blk_put HQ.out #[.int .i64 0, .int .i64 0, .int .i64 0, .int .i64 0, .int .u64 0, .int .i64 0, .int .i64 0, .int .i64 0, .bool false, .string ⟨#[]⟩, .slice none 0 0] rfl (eleven_one _ _ _ _ _ _ _ _ _ _ _ _ _)
        have HGF := Lib.hid (gr_put HG.out hgr HWQ.out)
        have HMS := Lib.hid hms
        have HML := Lib.hid hmsl
        have HTT := Lib.hid hT
        have HO2 := Lib.hid hO
        have y0 := hBl.cell (i := 0) rfl
        have y1 := hBl.cell (i := 1) rfl
        have y2 := hBl.cell (i := 2) rfl
        have y3 := hBl.cell (i := 3) rfl
        have y4 := hBl.cell (i := 4) rfl
        have y5 := hBl.cell (i := 5) rfl
        have y6 := hBl.cell (i := 6) rfl
        have y7 := hBl.cell (i := 7) rfl
        have y8 := hBl.cell (i := 8) rfl
        have y9 := hBl.cell (i := 9) rfl
        have y10 := hBl.cell (i := 10) rfl
        clear hms hmsl hT hO hgr hBl HQ HG
        go_wp2_with (first | (refine wpList_store_mid rfl 69 (.tmp 2) (.tmp 33) (by rfl) w.heap.size 0 ms.toArray (by rfl) (by exact HMS.out) HTT.out (by rw [HML.out]; kernel_rfl) HO2.out ?_))
        refine bodyPost_ret (v := .tuple #[.agg #[.int .i64 0, .int .i64 0, .int .i64 0, .int .i64 0, .int .u64 0, .int .i64 0, .int .i64 0, .int .i64 0, .bool false, .string ⟨#[]⟩, .slice none 0 0], .int .i64 (dd : Int)]) (by simp [results, Try.results46, go_sem, y0, y1, y2, y3, y4, y5, y6, y7, y8, y9, y10]; try rfl) rfl ?_
        exact ⟨none, 0, by rw [HP.out]; rfl, HGF.out, Lib.hid (by rw [HP.out]; exact ⟨w.heap.size, World.ownsRow_nil _ _ _ _⟩)⟩
      case pos =>
        subst h2
        rw [if_neg (by simp)] at hP
        by_cases h3 : p.size + 8 < s.size
        case pos =>
          rw [if_pos h3] at hP
          have h3' : (p.size : Int) + 8 < (s.size : Int) := by omega
          have HP := Lib.hid hP
          clear hP h3 HM HS
          go_upto_region 12 with fail
          obtain ⟨ms, hms, hmsl, hT, hO, hgr, hBl⟩ := blk_put HQ.out #[.int .i64 0, .int .i64 0, .int .i64 0, .int .i64 0, .int .u64 0, .int .i64 0, .int .i64 0, .int .i64 0, .bool false, .string ⟨#[]⟩, .slice none 0 0] rfl (eleven_one _ _ _ _ _ _ _ _ _ _ _ _ _)
          have HGF := Lib.hid (gr_put HG.out hgr HWQ.out)
          have HMS := Lib.hid hms
          have HML := Lib.hid hmsl
          have HTT := Lib.hid hT
          have HO2 := Lib.hid hO
          have y0 := hBl.cell (i := 0) rfl
          have y1 := hBl.cell (i := 1) rfl
          have y2 := hBl.cell (i := 2) rfl
          have y3 := hBl.cell (i := 3) rfl
          have y4 := hBl.cell (i := 4) rfl
          have y5 := hBl.cell (i := 5) rfl
          have y6 := hBl.cell (i := 6) rfl
          have y7 := hBl.cell (i := 7) rfl
          have y8 := hBl.cell (i := 8) rfl
          have y9 := hBl.cell (i := 9) rfl
          have y10 := hBl.cell (i := 10) rfl
          clear hms hmsl hT hO hgr hBl HQ HG
          go_wp2_with (first | (refine wpList_store_mid rfl 69 (.tmp 2) (.tmp 41) (by rfl) w.heap.size 0 ms.toArray (by rfl) (by exact HMS.out) HTT.out (by rw [HML.out]; kernel_rfl) HO2.out ?_))
          refine bodyPost_ret (v := .tuple #[.agg #[.int .i64 0, .int .i64 0, .int .i64 0, .int .i64 0, .int .u64 0, .int .i64 0, .int .i64 0, .int .i64 0, .bool false, .string ⟨#[]⟩, .slice none 0 0], .int .i64 4]) (by simp [results, Try.results46, go_sem, y0, y1, y2, y3, y4, y5, y6, y7, y8, y9, y10]; try rfl) rfl ?_
          exact ⟨none, 0, by rw [HP.out]; rfl, HGF.out, Lib.hid (by rw [HP.out]; exact ⟨w.heap.size, World.ownsRow_nil _ _ _ _⟩)⟩
        case neg =>
          rw [if_neg h3] at hP
          have h3' : ¬ (p.size : Int) + 8 < (s.size : Int) := by omega
          have HP := Lib.hid hP
          clear hP h3
          have f0 := HM.out.free 0
          have m0 := HM.out.cell (i := 0) rfl
          have HMO := HM
          replace HM := Lib.hid (show Blk _ _ #[.int .i64 (kd : Int), .int .i64 (frm : Int), .int .i64 (tt : Int), .int .i64 (sub : Int), .int .u64 (c : Int), .int .i64 (n : Int), .int .i64 (slot : Int), .int .i64 (time : Int), .bool ok, .string text, .slice la L.length lq] _ from HM.out.set 0 (.int .i64 (kd : Int)))
          replace HQ := Lib.hid (HQ.out.other hqm 0 (.int .i64 (kd : Int)))
          replace HG := Lib.hid (HG.out.setCell (p := ⟨pm, 0, none⟩) HWM.out (.int .i64 (kd : Int)))
          replace HS := Lib.hid (ownsRow_setCell_other (a := ⟨pm, 0, none⟩) HS.out (row_off HMO.out HS.out (by decide)) (.int .i64 (kd : Int)))
          have HWK := Lib.hid (show IntKind.i64.wrap (kd : Int) = kd by simp [IntKind.wrap, IntKind.bits, IntKind.signed]; omega)
          go_upto_region 14 with fail
          clear f0 m0 HMO
          generalize w6.setCell ⟨pm, 0, none⟩ (.int .i64 (kd : Int)) = w7 at *
          have m0 := HM.out.cell (i := 0) rfl
          have m1 := HM.out.cell (i := 1) rfl
          have m2 := HM.out.cell (i := 2) rfl
          have m3 := HM.out.cell (i := 3) rfl
          have m4 := HM.out.cell (i := 4) rfl
          have m5 := HM.out.cell (i := 5) rfl
          have m6 := HM.out.cell (i := 6) rfl
          have m7 := HM.out.cell (i := 7) rfl
          have m8 := HM.out.cell (i := 8) rfl
          have m9 := HM.out.cell (i := 9) rfl
          have m10 := HM.out.cell (i := 10) rfl
          obtain ⟨ms, hms, hmsl, hT, hOO, hgr, hBl⟩ := blk_put HQ.out #[.int .i64 (kd : Int), .int .i64 (frm : Int), .int .i64 (tt : Int), .int .i64 (sub : Int), .int .u64 (c : Int), .int .i64 (n : Int), .int .i64 (slot : Int), .int .i64 (time : Int), .bool ok, .string text, .slice la L.length lq] rfl (eleven_one _ _ _ _ _ _ _ _ _ _ _ _ _)
          have HGF := Lib.hid (gr_put HG.out hgr HWQ.out)
          have HSF := Lib.hid (HS.out.kept hgr (.inr (row_off HQ.out HS.out (by decide))))
          have HMS := Lib.hid hms
          have HML := Lib.hid hmsl
          have HTT := Lib.hid hT
          have HO2 := Lib.hid hOO
          have y0 := hBl.cell (i := 0) rfl
          have y1 := hBl.cell (i := 1) rfl
          have y2 := hBl.cell (i := 2) rfl
          have y3 := hBl.cell (i := 3) rfl
          have y4 := hBl.cell (i := 4) rfl
          have y5 := hBl.cell (i := 5) rfl
          have y6 := hBl.cell (i := 6) rfl
          have y7 := hBl.cell (i := 7) rfl
          have y8 := hBl.cell (i := 8) rfl
          have y9 := hBl.cell (i := 9) rfl
          have y10 := hBl.cell (i := 10) rfl
          clear hms hmsl hT hOO hgr hBl HG HQ HM HS
          go_wp2_with (first | (refine wpList_store_mid rfl 69 (.tmp 2) (.tmp 45) (by rfl) w.heap.size 0 ms.toArray (by rfl) (by exact HMS.out) HTT.out (by rw [HML.out]; kernel_rfl) HO2.out ?_))
          refine bodyPost_ret (v := .tuple #[.agg #[.int .i64 (kd : Int), .int .i64 (frm : Int), .int .i64 (tt : Int), .int .i64 (sub : Int), .int .u64 (c : Int), .int .i64 (n : Int), .int .i64 (slot : Int), .int .i64 (time : Int), .bool ok, .string text, .slice la L.length lq], .int .i64 0]) (by simp [results, Try.results46, go_sem, y0, y1, y2, y3, y4, y5, y6, y7, y8, y9, y10]; try rfl) rfl ?_
          exact ⟨la, lq, by rw [HP.out]; rfl, HGF.out, Lib.hid (by rw [HP.out]; exact ⟨_, HSF.out⟩)⟩
end Go.Proofs.Ytihhfdkcggnjpaa
