import Derived.Test.YtihhfdkcggnjpaaF10r
import Derived.Test.YtihhfdkcggnjpaaF10k
import Derived.Test.YtihhfdkcggnjpaaL01k
import Derived.WalkKit
import Derived.ProofKit
import Derived.LoopTactic
import Derived.Outline
import Derived.WalkSpells
import Derived.WalkLawsBesides
import Derived.Lib.Hide
import Derived.Deep.LoopGhost
import Derived.Deep.QuietTactic
import Derived.BigQuiet
import Derived.ShutString
import Derived.IntWalk
import Derived.Deep.MidRow
import Derived.Deep.AppendLies
import Derived.Deep.RegionHeld3
import Derived.Deep.CutRange
namespace Go.Proofs.Ytihhfdkcggnjpaa
open Go.ChangeShapes Go.WideShapes Go.ChangeAt Go.RowKit
open Enc Bal
set_option linter.unusedVariables false
set_option linter.unusedSimpArgs false
theorem doneE_ne {r : ByteArray} {e : Nat} (h : e ≠ 0) : doneE r e = e := by unfold doneE failE; split <;> simp [h]
/-- What the document's loop leaves, and what Parse gives. -/
theorem parse_at {s p : ByteArray} {kd k : Nat} {H : Hd} (hO : openB s = (kd, p, 0)) (hk : ¬ 13 < kd) (hH : headR p = H) (hc : k = H.cnt ∨ (entsR H.r H.e k).e ≠ 0 ∧ k ≤ H.cnt) :
    parseM s = if (entsR H.r H.e k).e ≠ 0 then ((entsR H.r H.e k).e, Mg.zero) else if 0 < (entsR H.r H.e k).r.size then (4, Mg.zero) else if p.size + 8 < s.size then (4, Mg.zero) else (0, mgOf kd H (entsR H.r H.e k).L) := by
  unfold parseM
  rw [hO]
  simp only
  rw [if_neg (by simp), if_neg hk]
  by_cases he : (entsR H.r H.e k).e ≠ 0
  · have e1 : (inR p).e = (entsR H.r H.e k).e := by
      unfold inR
      rw [hH]
      rcases hc with h | ⟨_, h⟩
      · rw [← h]
      · have := entsR_keep he (H.cnt - k)
        rwa [show k + (H.cnt - k) = H.cnt by omega] at this
    rw [if_pos he, e1, doneE_ne he, if_pos he]
  · rcases hc with h | ⟨h, _⟩
    · have e1 : inR p = entsR H.r H.e k := by unfold inR; rw [hH, h]
      have e0 : (entsR H.r H.e k).e = 0 := by omega
      rw [if_neg he, e1, hH, e0]
      by_cases hz : 0 < (entsR H.r H.e k).r.size
      · have : doneE (entsR H.r H.e k).r 0 = 4 := by unfold doneE failE; rw [if_pos hz, if_pos rfl]
        rw [this, if_pos (by decide), if_pos hz]
      · have : doneE (entsR H.r H.e k).r 0 = 0 := by unfold doneE; rw [if_neg hz]
        rw [this, if_neg (by simp), if_neg hz]
    · exact absurd h he
theorem rbb_is {r a : ByteArray} {e b : Nat} {c : Bool} (h : bS r e = (a, b, c)) (hr : r.size ≤ 1000000) (w : World) :
    Calls Try.prog 120 #[.agg #[.string r, .int .i64 (e : Int)]] w fun en w' => en = .returned (.tuple #[.agg #[.string a, .int .i64 (b : Int)], .bool c]) ∧ Gr w w' := by
  have := refB_any r e w hr
  unfold RBIs at this
  rwa [h] at this
set_option maxRecDepth 100000 in
set_option maxHeartbeats 16000000 in
theorem refParse10_any (s : ByteArray) (hs : s.size ≤ 1000000) (w : World) :
    Calls Try.prog 48 #[.string s] w fun e w' => ∃ a q, e = .returned (.tuple #[.agg #[.int .i64 (parseM s).2.kd, .int .i64 (parseM s).2.frm, .int .i64 (parseM s).2.tt, .int .i64 (parseM s).2.sub, .int .u64 (parseM s).2.c, .int .i64 (parseM s).2.n, .int .i64 (parseM s).2.slot, .int .i64 (parseM s).2.time, .bool (parseM s).2.ok, .string (parseM s).2.text, .slice a (parseM s).2.L.length q], .int .i64 ((parseM s).1 : Nat)]) ∧ Gr w w' ∧ Hid (ORow 164 w' (parseM s).2.L a q) := by
  obtain ⟨i0, hi0, hz0, hz1, hz2⟩ : ∃ i0 : TypeInfo, Try.prog.info? 164 = some i0 ∧ i0.zero = some (.agg #[.int .i64 0, .int .u64 0, .int .i64 0, .string ⟨#[]⟩]) ∧ i0.size = 4 ∧ i0.bytes = 40 := ⟨_, rfl, rfl, rfl, rfl⟩
  obtain ⟨kd, p, en, hO⟩ : ∃ a b c, openB s = (a, b, c) := ⟨_, _, _, rfl⟩
  have OP := Lib.hid fun w9 => (ropen_any s w9 (by omega)).mono fun e w' h => ropen_is hO h
  have hpr := open_size hO
  have hkd := open_kind hO
  obtain ⟨P, hP0⟩ : ∃ P, P = parseM s := ⟨_, rfl⟩
  rw [← hP0]
  have hP := hP0
  unfold parseM at hP
  rw [hO] at hP
  simp only at hP
  have HG := Lib.hid ((Gr.refl w).alloc (.cells #[.int .i64 0, .int .i64 0, .int .i64 0, .int .i64 0, .int .u64 0, .int .i64 0, .int .i64 0, .int .i64 0, .bool false, .string ⟨#[]⟩, .slice none 0 0] 81))
  have HQ := Lib.hid (Blk.new w #[.int .i64 0, .int .i64 0, .int .i64 0, .int .i64 0, .int .u64 0, .int .i64 0, .int .i64 0, .int .i64 0, .bool false, .string ⟨#[]⟩, .slice none 0 0] 81)
  have HWQ := Lib.hid (Nat.le_refl w.heap.size)
  go_enter Try.func48, Try.ntmps48
  go_wp2_with fail
  generalize w.alloc (.cells #[.int .i64 0, .int .i64 0, .int .i64 0, .int .i64 0, .int .u64 0, .int .i64 0, .int .i64 0, .int .i64 0, .bool false, .string ⟨#[]⟩, .slice none 0 0] 81) = wa at *
  refine (OP.out _).mono ?_
  rintro e w1 ⟨rfl, hg⟩
  have HA := (Gr.refl w1).alloc (.cells #[.int .u8 (kd : Int), .string p] 177)
  have HPB := Lib.hid (Blk.new w1 #[.int .u8 (kd : Int), .string p] 177)
  have hqo : w.heap.size ≠ w1.heap.size := Nat.ne_of_lt (HQ.out.gr hg).lt
  have HWO := Lib.hid (Nat.le_of_lt (HQ.out.gr hg).lt)
  replace HG := Lib.hid ((HG.out.trans hg).trans HA)
  replace HQ := Lib.hid ((HQ.out.gr hg).gr HA)
  clear hg OP HA
  have o0 := HPB.out.cell (i := 0) rfl
  have o1 := HPB.out.cell (i := 1) rfl
  by_cases h0 : en = 0
  case neg =>
    rw [if_pos h0] at hP
    have t0 : ((en : Int) != 0) = true := by simp; omega
    have HP := Lib.hid hP
    clear hP hP0 h0 hO hkd HPB o0 o1
    go_upto_region 3 with fail
    generalize w1.alloc (.cells #[.int .u8 (kd : Int), .string p] 177) = w2 at *
    obtain ⟨ms, hms, hmsl, hT, hO, hgr, hBl⟩ := blk_put HQ.out #[.int .i64 0, .int .i64 0, .int .i64 0, .int .i64 0, .int .u64 0, .int .i64 0, .int .i64 0, .int .i64 0, .bool false, .string ⟨#[]⟩, .slice none 0 0] rfl (eleven_one _ _ _ _ _ _ _ _ _ _ _ _ _)
    have HGF := Lib.hid (gr_put HG.out hgr HWQ.out)
    have HMS := Lib.hid hms
    have HML := Lib.hid hmsl
    have HTT := Lib.hid hT
    have HO2 := Lib.hid hO
    have y0 := hBl.cell (i := 0) rfl
    have y1 := hBl.cell (i := 1) rfl
    have y2 := hBl.cell (i := 2) rfl
    have y3 := hBl.cell (i := 3) rfl
    have y4 := hBl.cell (i := 4) rfl
    have y5 := hBl.cell (i := 5) rfl
    have y6 := hBl.cell (i := 6) rfl
    have y7 := hBl.cell (i := 7) rfl
    have y8 := hBl.cell (i := 8) rfl
    have y9 := hBl.cell (i := 9) rfl
    have y10 := hBl.cell (i := 10) rfl
    clear hms hmsl hT hO hgr hBl HQ HG
    go_wp2_with (first | (refine wpList_store_mid rfl 81 (.tmp 2) (.tmp 19) (by rfl) w.heap.size 0 ms.toArray (by rfl) (by exact HMS.out) HTT.out (by rw [HML.out]; kernel_rfl) HO2.out ?_))
    refine bodyPost_ret (v := .tuple #[.agg #[.int .i64 0, .int .i64 0, .int .i64 0, .int .i64 0, .int .u64 0, .int .i64 0, .int .i64 0, .int .i64 0, .bool false, .string ⟨#[]⟩, .slice none 0 0], .int .i64 (en : Int)]) (by simp [results, Try.results48, go_sem, y0, y1, y2, y3, y4, y5, y6, y7, y8, y9, y10]; try rfl) rfl ?_
    exact ⟨none, 0, by rw [HP.out]; rfl, HGF.out, Lib.hid (by rw [HP.out]; exact ⟨w.heap.size, World.ownsRow_nil _ _ _ _⟩)⟩
  case pos =>
    subst h0
    rw [if_neg (by simp)] at hP
    have hk := hkd rfl
    by_cases h1 : 13 < kd
    case pos =>
      rw [if_pos h1] at hP
      have HP := Lib.hid hP
      have h1' : (13 : Int) < (kd : Int) := by omega
      clear hP hP0 hO hkd
      go_upto_region 5 with fail
      generalize w1.alloc (.cells #[.int .u8 (kd : Int), .string p] 177) = w2 at *
      obtain ⟨ms, hms, hmsl, hT, hO, hgr, hBl⟩ := blk_put HQ.out #[.int .i64 0, .int .i64 0, .int .i64 0, .int .i64 0, .int .u64 0, .int .i64 0, .int .i64 0, .int .i64 0, .bool false, .string ⟨#[]⟩, .slice none 0 0] rfl (eleven_one _ _ _ _ _ _ _ _ _ _ _ _ _)
      have HGF := Lib.hid (gr_put HG.out hgr HWQ.out)
      have HMS := Lib.hid hms
      have HML := Lib.hid hmsl
      have HTT := Lib.hid hT
      have HO2 := Lib.hid hO
      have y0 := hBl.cell (i := 0) rfl
      have y1 := hBl.cell (i := 1) rfl
      have y2 := hBl.cell (i := 2) rfl
      have y3 := hBl.cell (i := 3) rfl
      have y4 := hBl.cell (i := 4) rfl
      have y5 := hBl.cell (i := 5) rfl
      have y6 := hBl.cell (i := 6) rfl
      have y7 := hBl.cell (i := 7) rfl
      have y8 := hBl.cell (i := 8) rfl
      have y9 := hBl.cell (i := 9) rfl
      have y10 := hBl.cell (i := 10) rfl
      clear hms hmsl hT hO hgr hBl HQ HG
      go_wp2_with (first | (refine wpList_store_mid rfl 81 (.tmp 2) (.tmp 24) (by rfl) w.heap.size 0 ms.toArray (by rfl) (by exact HMS.out) HTT.out (by rw [HML.out]; kernel_rfl) HO2.out ?_))
      refine bodyPost_ret (v := .tuple #[.agg #[.int .i64 0, .int .i64 0, .int .i64 0, .int .i64 0, .int .u64 0, .int .i64 0, .int .i64 0, .int .i64 0, .bool false, .string ⟨#[]⟩, .slice none 0 0], .int .i64 1]) (by simp [results, Try.results48, go_sem, y0, y1, y2, y3, y4, y5, y6, y7, y8, y9, y10]; try rfl) rfl ?_
      exact ⟨none, 0, by rw [HP.out]; rfl, HGF.out, Lib.hid (by rw [HP.out]; exact ⟨w.heap.size, World.ownsRow_nil _ _ _ _⟩)⟩
    case neg =>
      have h1' : ¬ (13 : Int) < (kd : Int) := by omega
      obtain ⟨r1, e1, frm, r2, e2, tt, r3, e3, sub, r4, e4, c, n, r5, e5, slot, r6, e6, time, r7, e7, ok, r8, e8, text, r9, e9, cnt, q1, q2, q3, q4, q5, q6, q7, q8, q9, hH, l1, l2, l3, l4, l5, l6, l7, l8, l9, hc⟩ := headR_ways p
      have hps : p.size ≤ 1000000 := by omega
      have N1 := Lib.hid fun w9 => rn_is q1 w9 (by omega) (by decide)
      have N2 := Lib.hid fun w9 => rn_is q2 w9 (by omega) (by decide)
      have N3 := Lib.hid fun w9 => rn_is q3 w9 (by omega) (by decide)
      have G4 := Lib.hid fun w9 => rget_to q4 (by omega) w9
      have N5 := Lib.hid fun w9 => rn_is q5 w9 (by omega) (by decide)
      have N6 := Lib.hid fun w9 => rn_is q6 w9 (by omega) (by decide)
      have B7 := Lib.hid fun w9 => rbb_is q7 (by omega) w9
      have S8 := Lib.hid fun w9 => rs_is q8 w9 (by omega) (by decide)
      have N9 := Lib.hid fun w9 => rn_is q9 w9 (by omega) (by decide)
      have HAT := Lib.hid fun (k : Nat) h => hP0.trans (parse_at (k := k) hO h1 hH h)
      clear q1 q2 q3 q4 q5 q6 q7 q8 q9 l1 l2 l3 l4 l5 l6 l7 l8 hH hkd hO hP hP0
      have hkz : kd < 256 := hk.2.1
      have HMM := Blk.new (w1.alloc (.cells #[.int .u8 (kd : Int), .string p] 177)) #[.int .i64 (kd : Int), .int .i64 0, .int .i64 0, .int .i64 0, .int .u64 0, .int .i64 0, .int .i64 0, .int .i64 0, .bool false, .string ⟨#[]⟩, .slice none 0 0] 81
      have HCC := Blk.new ((w1.alloc (.cells #[.int .u8 (kd : Int), .string p] 177)).alloc (.cells #[.int .i64 (kd : Int), .int .i64 0, .int .i64 0, .int .i64 0, .int .u64 0, .int .i64 0, .int .i64 0, .int .i64 0, .bool false, .string ⟨#[]⟩, .slice none 0 0] 81)) #[.string p, .int .i64 0] 181
      rw [show (w1.alloc (.cells #[.int .u8 (kd : Int), .string p] 177)).heap.size = w1.heap.size + 1 by simp] at HMM
      rw [show ((w1.alloc (.cells #[.int .u8 (kd : Int), .string p] 177)).alloc (.cells #[.int .i64 (kd : Int), .int .i64 0, .int .i64 0, .int .i64 0, .int .u64 0, .int .i64 0, .int .i64 0, .int .i64 0, .bool false, .string ⟨#[]⟩, .slice none 0 0] 81)).heap.size = w1.heap.size + 1 + 1 by simp] at HCC
      have HM := Lib.hid (HMM.gr ((Gr.refl _).alloc (.cells #[.string p, .int .i64 0] 181)))
      have HC := Lib.hid HCC
      have HA2 := ((Gr.refl (w1.alloc (.cells #[.int .u8 (kd : Int), .string p] 177))).alloc (.cells #[.int .i64 (kd : Int), .int .i64 0, .int .i64 0, .int .i64 0, .int .u64 0, .int .i64 0, .int .i64 0, .int .i64 0, .bool false, .string ⟨#[]⟩, .slice none 0 0] 81)).alloc (.cells #[.string p, .int .i64 0] 181)
      replace HG := Lib.hid (HG.out.trans HA2)
      replace HQ := Lib.hid (HQ.out.gr HA2)
      replace HPB := Lib.hid (HPB.out.gr HA2)
      clear HMM HCC HA2
      go_wp2_with fail
      clear o0 o1
      generalize ((w1.alloc (.cells #[.int .u8 (kd : Int), .string p] 177)).alloc (.cells #[.int .i64 (kd : Int), .int .i64 0, .int .i64 0, .int .i64 0, .int .u64 0, .int .i64 0, .int .i64 0, .int .i64 0, .bool false, .string ⟨#[]⟩, .slice none 0 0] 81)).alloc (.cells #[.string p, .int .i64 0] 181) = wb at *
      have hom : w1.heap.size ≠ w1.heap.size + 1 := by omega
      have hoc : w1.heap.size ≠ w1.heap.size + 1 + 1 := by omega
      have hmc : w1.heap.size + 1 ≠ w1.heap.size + 1 + 1 := by omega
      have hwo := HWO.out
      have hqm : w.heap.size ≠ w1.heap.size + 1 := by omega
      have hqc : w.heap.size ≠ w1.heap.size + 1 + 1 := by omega
      have HWM := Lib.hid (show w.heap.size ≤ w1.heap.size + 1 by omega)
      have HWC := Lib.hid (show w.heap.size ≤ w1.heap.size + 1 + 1 by omega)
      clear hwo
      generalize w1.heap.size + 1 + 1 = pc at *
      generalize w1.heap.size + 1 = pm at *
      generalize w1.heap.size = po at *
      have c0 := HC.out.cell (i := 0) rfl
      have c1 := HC.out.cell (i := 1) rfl
      refine (N1.out _).mono ?_
      rintro e v1 ⟨rfl, hg⟩
      replace HG := Lib.hid (HG.out.trans hg)
      replace HQ := Lib.hid (HQ.out.gr hg)
      replace HPB := Lib.hid (HPB.out.gr hg)
      replace HM := Lib.hid (HM.out.gr hg)
      replace HC := Lib.hid (HC.out.gr hg)
      clear hg N1 c0 c1
      have c0 := HC.out.cell (i := 0) rfl
      have c1 := HC.out.cell (i := 1) rfl
      have d0 := HC.out.free 0
      have d1 := HC.out.free 1
      have m1 := HM.out.cell (i := 1) rfl
      have f1 := HM.out.free 1
      replace HC := Lib.hid (HC.out.set 0 (.string r1))
      replace HM := Lib.hid (HM.out.other hmc 0 (.string r1))
      replace HQ := Lib.hid (HQ.out.other hqc 0 (.string r1))
      replace HPB := Lib.hid (HPB.out.other hoc 0 (.string r1))
      replace HG := Lib.hid (HG.out.setCell (p := ⟨pc, 0, none⟩) HWC.out (.string r1))
      replace HC := Lib.hid (HC.out.set 1 (.int .i64 (e1 : Int)))
      replace HM := Lib.hid (HM.out.other hmc 1 (.int .i64 (e1 : Int)))
      replace HQ := Lib.hid (HQ.out.other hqc 1 (.int .i64 (e1 : Int)))
      replace HPB := Lib.hid (HPB.out.other hoc 1 (.int .i64 (e1 : Int)))
      replace HG := Lib.hid (HG.out.setCell (p := ⟨pc, 1, none⟩) HWC.out (.int .i64 (e1 : Int)))
      replace HM := Lib.hid (HM.out.set 1 (.int .i64 (frm : Int)))
      replace HC := Lib.hid (HC.out.other (Ne.symm hmc) 1 (.int .i64 (frm : Int)))
      replace HQ := Lib.hid (HQ.out.other hqm 1 (.int .i64 (frm : Int)))
      replace HPB := Lib.hid (HPB.out.other hom 1 (.int .i64 (frm : Int)))
      replace HG := Lib.hid (HG.out.setCell (p := ⟨pm, 1, none⟩) HWM.out (.int .i64 (frm : Int)))
      replace HM := Lib.hid (show Blk _ _ #[.int .i64 (kd : Int), .int .i64 (frm : Int), .int .i64 0, .int .i64 0, .int .u64 0, .int .i64 0, .int .i64 0, .int .i64 0, .bool false, .string ⟨#[]⟩, .slice none 0 0] _ from HM.out)
      replace HC := Lib.hid (show Blk _ _ #[.string r1, .int .i64 (e1 : Int)] _ from HC.out)
      have n0 := HC.out.cell (i := 0) rfl
      have n1 := HC.out.cell (i := 1) rfl
      go_wp2_with fail
      clear c0 c1 d0 d1 m1 f1
      generalize (((v1.setCell ⟨pc, 0, none⟩ (.string r1)).setCell ⟨pc, 1, none⟩ (.int .i64 (e1 : Int))).setCell ⟨pm, 1, none⟩ (.int .i64 (frm : Int))) = v2 at *
      have c0 := n0
      have c1 := n1
      clear n0 n1
      refine (N2.out _).mono ?_
      rintro e v3 ⟨rfl, hg⟩
      replace HG := Lib.hid (HG.out.trans hg)
      replace HQ := Lib.hid (HQ.out.gr hg)
      replace HPB := Lib.hid (HPB.out.gr hg)
      replace HM := Lib.hid (HM.out.gr hg)
      replace HC := Lib.hid (HC.out.gr hg)
      clear hg N2 c0 c1
      have c0 := HC.out.cell (i := 0) rfl
      have c1 := HC.out.cell (i := 1) rfl
      have d0 := HC.out.free 0
      have d1 := HC.out.free 1
      have m2 := HM.out.cell (i := 2) rfl
      have f2 := HM.out.free 2
      replace HC := Lib.hid (HC.out.set 0 (.string r2))
      replace HM := Lib.hid (HM.out.other hmc 0 (.string r2))
      replace HQ := Lib.hid (HQ.out.other hqc 0 (.string r2))
      replace HPB := Lib.hid (HPB.out.other hoc 0 (.string r2))
      replace HG := Lib.hid (HG.out.setCell (p := ⟨pc, 0, none⟩) HWC.out (.string r2))
      replace HC := Lib.hid (HC.out.set 1 (.int .i64 (e2 : Int)))
      replace HM := Lib.hid (HM.out.other hmc 1 (.int .i64 (e2 : Int)))
      replace HQ := Lib.hid (HQ.out.other hqc 1 (.int .i64 (e2 : Int)))
      replace HPB := Lib.hid (HPB.out.other hoc 1 (.int .i64 (e2 : Int)))
      replace HG := Lib.hid (HG.out.setCell (p := ⟨pc, 1, none⟩) HWC.out (.int .i64 (e2 : Int)))
      replace HM := Lib.hid (HM.out.set 2 (.int .i64 (tt : Int)))
      replace HC := Lib.hid (HC.out.other (Ne.symm hmc) 2 (.int .i64 (tt : Int)))
      replace HQ := Lib.hid (HQ.out.other hqm 2 (.int .i64 (tt : Int)))
      replace HPB := Lib.hid (HPB.out.other hom 2 (.int .i64 (tt : Int)))
      replace HG := Lib.hid (HG.out.setCell (p := ⟨pm, 2, none⟩) HWM.out (.int .i64 (tt : Int)))
      replace HM := Lib.hid (show Blk _ _ #[.int .i64 (kd : Int), .int .i64 (frm : Int), .int .i64 (tt : Int), .int .i64 0, .int .u64 0, .int .i64 0, .int .i64 0, .int .i64 0, .bool false, .string ⟨#[]⟩, .slice none 0 0] _ from HM.out)
      replace HC := Lib.hid (show Blk _ _ #[.string r2, .int .i64 (e2 : Int)] _ from HC.out)
      have n0 := HC.out.cell (i := 0) rfl
      have n1 := HC.out.cell (i := 1) rfl
      go_wp2_with fail
      clear c0 c1 d0 d1 m2 f2
      generalize (((v3.setCell ⟨pc, 0, none⟩ (.string r2)).setCell ⟨pc, 1, none⟩ (.int .i64 (e2 : Int))).setCell ⟨pm, 2, none⟩ (.int .i64 (tt : Int))) = v4 at *
      have c0 := n0
      have c1 := n1
      clear n0 n1
      refine (N3.out _).mono ?_
      rintro e v5 ⟨rfl, hg⟩
      replace HG := Lib.hid (HG.out.trans hg)
      replace HQ := Lib.hid (HQ.out.gr hg)
      replace HPB := Lib.hid (HPB.out.gr hg)
      replace HM := Lib.hid (HM.out.gr hg)
      replace HC := Lib.hid (HC.out.gr hg)
      clear hg N3 c0 c1
      have c0 := HC.out.cell (i := 0) rfl
      have c1 := HC.out.cell (i := 1) rfl
      have d0 := HC.out.free 0
      have d1 := HC.out.free 1
      have m3 := HM.out.cell (i := 3) rfl
      have f3 := HM.out.free 3
      replace HC := Lib.hid (HC.out.set 0 (.string r3))
      replace HM := Lib.hid (HM.out.other hmc 0 (.string r3))
      replace HQ := Lib.hid (HQ.out.other hqc 0 (.string r3))
      replace HPB := Lib.hid (HPB.out.other hoc 0 (.string r3))
      replace HG := Lib.hid (HG.out.setCell (p := ⟨pc, 0, none⟩) HWC.out (.string r3))
      replace HC := Lib.hid (HC.out.set 1 (.int .i64 (e3 : Int)))
      replace HM := Lib.hid (HM.out.other hmc 1 (.int .i64 (e3 : Int)))
      replace HQ := Lib.hid (HQ.out.other hqc 1 (.int .i64 (e3 : Int)))
      replace HPB := Lib.hid (HPB.out.other hoc 1 (.int .i64 (e3 : Int)))
      replace HG := Lib.hid (HG.out.setCell (p := ⟨pc, 1, none⟩) HWC.out (.int .i64 (e3 : Int)))
      replace HM := Lib.hid (HM.out.set 3 (.int .i64 (sub : Int)))
      replace HC := Lib.hid (HC.out.other (Ne.symm hmc) 3 (.int .i64 (sub : Int)))
      replace HQ := Lib.hid (HQ.out.other hqm 3 (.int .i64 (sub : Int)))
      replace HPB := Lib.hid (HPB.out.other hom 3 (.int .i64 (sub : Int)))
      replace HG := Lib.hid (HG.out.setCell (p := ⟨pm, 3, none⟩) HWM.out (.int .i64 (sub : Int)))
      replace HM := Lib.hid (show Blk _ _ #[.int .i64 (kd : Int), .int .i64 (frm : Int), .int .i64 (tt : Int), .int .i64 (sub : Int), .int .u64 0, .int .i64 0, .int .i64 0, .int .i64 0, .bool false, .string ⟨#[]⟩, .slice none 0 0] _ from HM.out)
      replace HC := Lib.hid (show Blk _ _ #[.string r3, .int .i64 (e3 : Int)] _ from HC.out)
      have n0 := HC.out.cell (i := 0) rfl
      have n1 := HC.out.cell (i := 1) rfl
      go_wp2_with fail
      clear c0 c1 d0 d1 m3 f3
      generalize (((v5.setCell ⟨pc, 0, none⟩ (.string r3)).setCell ⟨pc, 1, none⟩ (.int .i64 (e3 : Int))).setCell ⟨pm, 3, none⟩ (.int .i64 (sub : Int))) = v6 at *
      have c0 := n0
      have c1 := n1
      clear n0 n1
      refine (G4.out _).mono ?_
      rintro e v7 ⟨rfl, hg⟩
      replace HG := Lib.hid (HG.out.trans hg)
      replace HQ := Lib.hid (HQ.out.gr hg)
      replace HPB := Lib.hid (HPB.out.gr hg)
      replace HM := Lib.hid (HM.out.gr hg)
      replace HC := Lib.hid (HC.out.gr hg)
      clear hg G4 c0 c1
      have c0 := HC.out.cell (i := 0) rfl
      have c1 := HC.out.cell (i := 1) rfl
      have d0 := HC.out.free 0
      have d1 := HC.out.free 1
      have m4 := HM.out.cell (i := 4) rfl
      have f4 := HM.out.free 4
      have m5 := HM.out.cell (i := 5) rfl
      have f5 := HM.out.free 5
      replace HC := Lib.hid (HC.out.set 0 (.string r4))
      replace HM := Lib.hid (HM.out.other hmc 0 (.string r4))
      replace HQ := Lib.hid (HQ.out.other hqc 0 (.string r4))
      replace HPB := Lib.hid (HPB.out.other hoc 0 (.string r4))
      replace HG := Lib.hid (HG.out.setCell (p := ⟨pc, 0, none⟩) HWC.out (.string r4))
      replace HC := Lib.hid (HC.out.set 1 (.int .i64 (e4 : Int)))
      replace HM := Lib.hid (HM.out.other hmc 1 (.int .i64 (e4 : Int)))
      replace HQ := Lib.hid (HQ.out.other hqc 1 (.int .i64 (e4 : Int)))
      replace HPB := Lib.hid (HPB.out.other hoc 1 (.int .i64 (e4 : Int)))
      replace HG := Lib.hid (HG.out.setCell (p := ⟨pc, 1, none⟩) HWC.out (.int .i64 (e4 : Int)))
      replace HM := Lib.hid (HM.out.set 4 (.int .u64 (c : Int)))
      replace HC := Lib.hid (HC.out.other (Ne.symm hmc) 4 (.int .u64 (c : Int)))
      replace HQ := Lib.hid (HQ.out.other hqm 4 (.int .u64 (c : Int)))
      replace HPB := Lib.hid (HPB.out.other hom 4 (.int .u64 (c : Int)))
      replace HG := Lib.hid (HG.out.setCell (p := ⟨pm, 4, none⟩) HWM.out (.int .u64 (c : Int)))
      replace HM := Lib.hid (HM.out.set 5 (.int .i64 (n : Int)))
      replace HC := Lib.hid (HC.out.other (Ne.symm hmc) 5 (.int .i64 (n : Int)))
      replace HQ := Lib.hid (HQ.out.other hqm 5 (.int .i64 (n : Int)))
      replace HPB := Lib.hid (HPB.out.other hom 5 (.int .i64 (n : Int)))
      replace HG := Lib.hid (HG.out.setCell (p := ⟨pm, 5, none⟩) HWM.out (.int .i64 (n : Int)))
      replace HM := Lib.hid (show Blk _ _ #[.int .i64 (kd : Int), .int .i64 (frm : Int), .int .i64 (tt : Int), .int .i64 (sub : Int), .int .u64 (c : Int), .int .i64 (n : Int), .int .i64 0, .int .i64 0, .bool false, .string ⟨#[]⟩, .slice none 0 0] _ from HM.out)
      replace HC := Lib.hid (show Blk _ _ #[.string r4, .int .i64 (e4 : Int)] _ from HC.out)
      have n0 := HC.out.cell (i := 0) rfl
      have n1 := HC.out.cell (i := 1) rfl
      go_wp2_with fail
      clear c0 c1 d0 d1 m4 f4 m5 f5
      generalize ((((v7.setCell ⟨pc, 0, none⟩ (.string r4)).setCell ⟨pc, 1, none⟩ (.int .i64 (e4 : Int))).setCell ⟨pm, 4, none⟩ (.int .u64 (c : Int))).setCell ⟨pm, 5, none⟩ (.int .i64 (n : Int))) = v8 at *
      have c0 := n0
      have c1 := n1
      clear n0 n1
      refine (N5.out _).mono ?_
      rintro e v9 ⟨rfl, hg⟩
      replace HG := Lib.hid (HG.out.trans hg)
      replace HQ := Lib.hid (HQ.out.gr hg)
      replace HPB := Lib.hid (HPB.out.gr hg)
      replace HM := Lib.hid (HM.out.gr hg)
      replace HC := Lib.hid (HC.out.gr hg)
      clear hg N5 c0 c1
      have c0 := HC.out.cell (i := 0) rfl
      have c1 := HC.out.cell (i := 1) rfl
      have d0 := HC.out.free 0
      have d1 := HC.out.free 1
      have m6 := HM.out.cell (i := 6) rfl
      have f6 := HM.out.free 6
      replace HC := Lib.hid (HC.out.set 0 (.string r5))
      replace HM := Lib.hid (HM.out.other hmc 0 (.string r5))
      replace HQ := Lib.hid (HQ.out.other hqc 0 (.string r5))
      replace HPB := Lib.hid (HPB.out.other hoc 0 (.string r5))
      replace HG := Lib.hid (HG.out.setCell (p := ⟨pc, 0, none⟩) HWC.out (.string r5))
      replace HC := Lib.hid (HC.out.set 1 (.int .i64 (e5 : Int)))
      replace HM := Lib.hid (HM.out.other hmc 1 (.int .i64 (e5 : Int)))
      replace HQ := Lib.hid (HQ.out.other hqc 1 (.int .i64 (e5 : Int)))
      replace HPB := Lib.hid (HPB.out.other hoc 1 (.int .i64 (e5 : Int)))
      replace HG := Lib.hid (HG.out.setCell (p := ⟨pc, 1, none⟩) HWC.out (.int .i64 (e5 : Int)))
      replace HM := Lib.hid (HM.out.set 6 (.int .i64 (slot : Int)))
      replace HC := Lib.hid (HC.out.other (Ne.symm hmc) 6 (.int .i64 (slot : Int)))
      replace HQ := Lib.hid (HQ.out.other hqm 6 (.int .i64 (slot : Int)))
      replace HPB := Lib.hid (HPB.out.other hom 6 (.int .i64 (slot : Int)))
      replace HG := Lib.hid (HG.out.setCell (p := ⟨pm, 6, none⟩) HWM.out (.int .i64 (slot : Int)))
      replace HM := Lib.hid (show Blk _ _ #[.int .i64 (kd : Int), .int .i64 (frm : Int), .int .i64 (tt : Int), .int .i64 (sub : Int), .int .u64 (c : Int), .int .i64 (n : Int), .int .i64 (slot : Int), .int .i64 0, .bool false, .string ⟨#[]⟩, .slice none 0 0] _ from HM.out)
      replace HC := Lib.hid (show Blk _ _ #[.string r5, .int .i64 (e5 : Int)] _ from HC.out)
      have n0 := HC.out.cell (i := 0) rfl
      have n1 := HC.out.cell (i := 1) rfl
      go_wp2_with fail
      clear c0 c1 d0 d1 m6 f6
      generalize (((v9.setCell ⟨pc, 0, none⟩ (.string r5)).setCell ⟨pc, 1, none⟩ (.int .i64 (e5 : Int))).setCell ⟨pm, 6, none⟩ (.int .i64 (slot : Int))) = v10 at *
      have c0 := n0
      have c1 := n1
      clear n0 n1
      refine (N6.out _).mono ?_
      rintro e v11 ⟨rfl, hg⟩
      replace HG := Lib.hid (HG.out.trans hg)
      replace HQ := Lib.hid (HQ.out.gr hg)
      replace HPB := Lib.hid (HPB.out.gr hg)
      replace HM := Lib.hid (HM.out.gr hg)
      replace HC := Lib.hid (HC.out.gr hg)
      clear hg N6 c0 c1
      have c0 := HC.out.cell (i := 0) rfl
      have c1 := HC.out.cell (i := 1) rfl
      have d0 := HC.out.free 0
      have d1 := HC.out.free 1
      have m7 := HM.out.cell (i := 7) rfl
      have f7 := HM.out.free 7
      replace HC := Lib.hid (HC.out.set 0 (.string r6))
      replace HM := Lib.hid (HM.out.other hmc 0 (.string r6))
      replace HQ := Lib.hid (HQ.out.other hqc 0 (.string r6))
      replace HPB := Lib.hid (HPB.out.other hoc 0 (.string r6))
      replace HG := Lib.hid (HG.out.setCell (p := ⟨pc, 0, none⟩) HWC.out (.string r6))
      replace HC := Lib.hid (HC.out.set 1 (.int .i64 (e6 : Int)))
      replace HM := Lib.hid (HM.out.other hmc 1 (.int .i64 (e6 : Int)))
      replace HQ := Lib.hid (HQ.out.other hqc 1 (.int .i64 (e6 : Int)))
      replace HPB := Lib.hid (HPB.out.other hoc 1 (.int .i64 (e6 : Int)))
      replace HG := Lib.hid (HG.out.setCell (p := ⟨pc, 1, none⟩) HWC.out (.int .i64 (e6 : Int)))
      replace HM := Lib.hid (HM.out.set 7 (.int .i64 (time : Int)))
      replace HC := Lib.hid (HC.out.other (Ne.symm hmc) 7 (.int .i64 (time : Int)))
      replace HQ := Lib.hid (HQ.out.other hqm 7 (.int .i64 (time : Int)))
      replace HPB := Lib.hid (HPB.out.other hom 7 (.int .i64 (time : Int)))
      replace HG := Lib.hid (HG.out.setCell (p := ⟨pm, 7, none⟩) HWM.out (.int .i64 (time : Int)))
      replace HM := Lib.hid (show Blk _ _ #[.int .i64 (kd : Int), .int .i64 (frm : Int), .int .i64 (tt : Int), .int .i64 (sub : Int), .int .u64 (c : Int), .int .i64 (n : Int), .int .i64 (slot : Int), .int .i64 (time : Int), .bool false, .string ⟨#[]⟩, .slice none 0 0] _ from HM.out)
      replace HC := Lib.hid (show Blk _ _ #[.string r6, .int .i64 (e6 : Int)] _ from HC.out)
      have n0 := HC.out.cell (i := 0) rfl
      have n1 := HC.out.cell (i := 1) rfl
      go_wp2_with fail
      clear c0 c1 d0 d1 m7 f7
      generalize (((v11.setCell ⟨pc, 0, none⟩ (.string r6)).setCell ⟨pc, 1, none⟩ (.int .i64 (e6 : Int))).setCell ⟨pm, 7, none⟩ (.int .i64 (time : Int))) = v12 at *
      have c0 := n0
      have c1 := n1
      clear n0 n1
      refine (B7.out _).mono ?_
      rintro e v13 ⟨rfl, hg⟩
      replace HG := Lib.hid (HG.out.trans hg)
      replace HQ := Lib.hid (HQ.out.gr hg)
      replace HPB := Lib.hid (HPB.out.gr hg)
      replace HM := Lib.hid (HM.out.gr hg)
      replace HC := Lib.hid (HC.out.gr hg)
      clear hg B7 c0 c1
      have c0 := HC.out.cell (i := 0) rfl
      have c1 := HC.out.cell (i := 1) rfl
      have d0 := HC.out.free 0
      have d1 := HC.out.free 1
      have m8 := HM.out.cell (i := 8) rfl
      have f8 := HM.out.free 8
      replace HC := Lib.hid (HC.out.set 0 (.string r7))
      replace HM := Lib.hid (HM.out.other hmc 0 (.string r7))
      replace HQ := Lib.hid (HQ.out.other hqc 0 (.string r7))
      replace HPB := Lib.hid (HPB.out.other hoc 0 (.string r7))
      replace HG := Lib.hid (HG.out.setCell (p := ⟨pc, 0, none⟩) HWC.out (.string r7))
      replace HC := Lib.hid (HC.out.set 1 (.int .i64 (e7 : Int)))
      replace HM := Lib.hid (HM.out.other hmc 1 (.int .i64 (e7 : Int)))
      replace HQ := Lib.hid (HQ.out.other hqc 1 (.int .i64 (e7 : Int)))
      replace HPB := Lib.hid (HPB.out.other hoc 1 (.int .i64 (e7 : Int)))
      replace HG := Lib.hid (HG.out.setCell (p := ⟨pc, 1, none⟩) HWC.out (.int .i64 (e7 : Int)))
      replace HM := Lib.hid (HM.out.set 8 (.bool ok))
      replace HC := Lib.hid (HC.out.other (Ne.symm hmc) 8 (.bool ok))
      replace HQ := Lib.hid (HQ.out.other hqm 8 (.bool ok))
      replace HPB := Lib.hid (HPB.out.other hom 8 (.bool ok))
      replace HG := Lib.hid (HG.out.setCell (p := ⟨pm, 8, none⟩) HWM.out (.bool ok))
      replace HM := Lib.hid (show Blk _ _ #[.int .i64 (kd : Int), .int .i64 (frm : Int), .int .i64 (tt : Int), .int .i64 (sub : Int), .int .u64 (c : Int), .int .i64 (n : Int), .int .i64 (slot : Int), .int .i64 (time : Int), .bool ok, .string ⟨#[]⟩, .slice none 0 0] _ from HM.out)
      replace HC := Lib.hid (show Blk _ _ #[.string r7, .int .i64 (e7 : Int)] _ from HC.out)
      have n0 := HC.out.cell (i := 0) rfl
      have n1 := HC.out.cell (i := 1) rfl
      go_wp2_with fail
      clear c0 c1 d0 d1 m8 f8
      generalize (((v13.setCell ⟨pc, 0, none⟩ (.string r7)).setCell ⟨pc, 1, none⟩ (.int .i64 (e7 : Int))).setCell ⟨pm, 8, none⟩ (.bool ok)) = v14 at *
      have c0 := n0
      have c1 := n1
      clear n0 n1
      refine (S8.out _).mono ?_
      rintro e v15 ⟨rfl, hg⟩
      replace HG := Lib.hid (HG.out.trans hg)
      replace HQ := Lib.hid (HQ.out.gr hg)
      replace HPB := Lib.hid (HPB.out.gr hg)
      replace HM := Lib.hid (HM.out.gr hg)
      replace HC := Lib.hid (HC.out.gr hg)
      clear hg S8 c0 c1
      have c0 := HC.out.cell (i := 0) rfl
      have c1 := HC.out.cell (i := 1) rfl
      have d0 := HC.out.free 0
      have d1 := HC.out.free 1
      have m9 := HM.out.cell (i := 9) rfl
      have f9 := HM.out.free 9
      replace HC := Lib.hid (HC.out.set 0 (.string r8))
      replace HM := Lib.hid (HM.out.other hmc 0 (.string r8))
      replace HQ := Lib.hid (HQ.out.other hqc 0 (.string r8))
      replace HPB := Lib.hid (HPB.out.other hoc 0 (.string r8))
      replace HG := Lib.hid (HG.out.setCell (p := ⟨pc, 0, none⟩) HWC.out (.string r8))
      replace HC := Lib.hid (HC.out.set 1 (.int .i64 (e8 : Int)))
      replace HM := Lib.hid (HM.out.other hmc 1 (.int .i64 (e8 : Int)))
      replace HQ := Lib.hid (HQ.out.other hqc 1 (.int .i64 (e8 : Int)))
      replace HPB := Lib.hid (HPB.out.other hoc 1 (.int .i64 (e8 : Int)))
      replace HG := Lib.hid (HG.out.setCell (p := ⟨pc, 1, none⟩) HWC.out (.int .i64 (e8 : Int)))
      replace HM := Lib.hid (HM.out.set 9 (.string text))
      replace HC := Lib.hid (HC.out.other (Ne.symm hmc) 9 (.string text))
      replace HQ := Lib.hid (HQ.out.other hqm 9 (.string text))
      replace HPB := Lib.hid (HPB.out.other hom 9 (.string text))
      replace HG := Lib.hid (HG.out.setCell (p := ⟨pm, 9, none⟩) HWM.out (.string text))
      replace HM := Lib.hid (show Blk _ _ #[.int .i64 (kd : Int), .int .i64 (frm : Int), .int .i64 (tt : Int), .int .i64 (sub : Int), .int .u64 (c : Int), .int .i64 (n : Int), .int .i64 (slot : Int), .int .i64 (time : Int), .bool ok, .string text, .slice none 0 0] _ from HM.out)
      replace HC := Lib.hid (show Blk _ _ #[.string r8, .int .i64 (e8 : Int)] _ from HC.out)
      have n0 := HC.out.cell (i := 0) rfl
      have n1 := HC.out.cell (i := 1) rfl
      go_wp2_with fail
      clear c0 c1 d0 d1 m9 f9
      generalize (((v15.setCell ⟨pc, 0, none⟩ (.string r8)).setCell ⟨pc, 1, none⟩ (.int .i64 (e8 : Int))).setCell ⟨pm, 9, none⟩ (.string text)) = v16 at *
      have c0 := n0
      have c1 := n1
      clear n0 n1
      refine (N9.out _).mono ?_
      rintro e v90 ⟨rfl, hg⟩
      replace HG := Lib.hid (HG.out.trans hg)
      replace HQ := Lib.hid (HQ.out.gr hg)
      replace HPB := Lib.hid (HPB.out.gr hg)
      replace HM := Lib.hid (HM.out.gr hg)
      replace HC := Lib.hid (HC.out.gr hg)
      clear hg N9 c0 c1
      have c0 := HC.out.cell (i := 0) rfl
      have c1 := HC.out.cell (i := 1) rfl
      have d0 := HC.out.free 0
      have d1 := HC.out.free 1
      replace HC := Lib.hid (HC.out.set 0 (.string r9))
      replace HM := Lib.hid (HM.out.other hmc 0 (.string r9))
      replace HQ := Lib.hid (HQ.out.other hqc 0 (.string r9))
      replace HPB := Lib.hid (HPB.out.other hoc 0 (.string r9))
      replace HG := Lib.hid (HG.out.setCell (p := ⟨pc, 0, none⟩) HWC.out (.string r9))
      replace HC := Lib.hid (HC.out.set 1 (.int .i64 (e9 : Int)))
      replace HM := Lib.hid (HM.out.other hmc 1 (.int .i64 (e9 : Int)))
      replace HQ := Lib.hid (HQ.out.other hqc 1 (.int .i64 (e9 : Int)))
      replace HPB := Lib.hid (HPB.out.other hoc 1 (.int .i64 (e9 : Int)))
      replace HG := Lib.hid (HG.out.setCell (p := ⟨pc, 1, none⟩) HWC.out (.int .i64 (e9 : Int)))
      replace HC := Lib.hid (show Blk _ _ #[.string r9, .int .i64 (e9 : Int)] _ from HC.out)
      replace HM := Lib.hid (show Blk _ _ #[.int .i64 (kd : Int), .int .i64 (frm : Int), .int .i64 (tt : Int), .int .i64 (sub : Int), .int .u64 (c : Int), .int .i64 (n : Int), .int .i64 (slot : Int), .int .i64 (time : Int), .bool ok, .string text, .slice none 0 0] _ from HM.out)
      go_wp2
      clear c0 c1 d0 d1
      go_loopw [9, 10] (fun u9 u10 wr => ∃ (k : Nat) (ua : Option Addr) (uc : Nat), k ≤ cnt ∧ u10 = .int .i64 (k : Nat) ∧ u9 = .int .i64 (entsR r9 e9 k).last ∧ Hid (Blk wr pc #[.string (entsR r9 e9 k).r, .int .i64 ((entsR r9 e9 k).e : Int)] 181) ∧ Hid (Blk wr pm #[.int .i64 (kd : Int), .int .i64 (frm : Int), .int .i64 (tt : Int), .int .i64 (sub : Int), .int .u64 (c : Int), .int .i64 (n : Int), .int .i64 (slot : Int), .int .i64 (time : Int), .bool ok, .string text, .slice ua k uc] 81) ∧ Hid (Blk wr po #[.int .u8 (kd : Int), .string p] 177) ∧ Hid (Blk wr w.heap.size #[.int .i64 0, .int .i64 0, .int .i64 0, .int .i64 0, .int .u64 0, .int .i64 0, .int .i64 0, .int .i64 0, .bool false, .string ⟨#[]⟩, .slice none 0 0] 81) ∧ Hid (Gr w wr) ∧ Hid (wr.ownsRow w.heap.size 164 4 (.slice ua k uc) k (rcells encE (entsR r9 e9 k).L))) (fun _ u10 _ => cnt - (intOf u10).toNat)
      case atStart => exact ⟨0, none, 0, by omega, rfl, rfl, HC, HM, HPB, HQ, HG, Lib.hid (World.ownsRow_nil _ _ _ _)⟩
      case round =>
        clear HC HM HPB HQ HG
        obtain ⟨k, ua, uc, hk1, rfl, rfl, HC, HM, HPB, HQ, HG, HS⟩ := hrel
        have HAK := Lib.hid (HAT.out k)
        have hsl := entsR_left r9 e9 k
        have hE : entsR r9 e9 (k + 1) = entS (entsR r9 e9 k) := rfl
        have hLL := entsR_len r9 e9 k
        have hsc : (Value.slice ua k uc).ownBlock ≠ some pc := row_off HC.out HS.out (by decide)
        try simp only at HAK
        generalize entsR r9 e9 k = st at *
        obtain ⟨ra, ea, la, L⟩ := st
        simp only at hsl hLL HS HAK HC
        have c0 := HC.out.cell (i := 0) rfl
        have c1 := HC.out.cell (i := 1) rfl
        by_cases hlt : k < cnt
        · have hk4 : (k : Int) < (cnt : Int) := by omega
          by_cases hea : ea = 0
          · subst hea
            obtain ⟨a1, x1, sl, q1⟩ : ∃ a b c, nS ra 0 1099511627776 = (a, b, c) := ⟨_, _, _, rfl⟩
            obtain ⟨a2, x2, bc, bn, q2⟩ : ∃ x y z u, getS a1 (if (sl : Int) ≤ la then failE x1 4 else x1) = (x, y, z, u) := ⟨_, _, _, _, rfl⟩
            obtain ⟨a3, x3, tx, q3⟩ : ∃ x y z, sS a2 x2 400 = (x, y, z) := ⟨_, _, _, rfl⟩
            have ha1 : a1.size ≤ 1000000 ∧ a2.size ≤ 1000000 ∧ ra.size ≤ 1000000 := by
              have l1 := nS_left ra 0 1099511627776
              have l2 := getS_left a1 (if (sl : Int) ≤ la then failE x1 4 else x1)
              rw [q1] at l1; rw [q2] at l2; simp only at l1 l2; omega
            have HN := Lib.hid (show entsR r9 e9 (k + 1) = ⟨a3, x3, sl, L ++ [⟨sl, bc, bn, tx⟩]⟩ from by rw [hE, entS]; simp only; rw [entR_eq q1 q2 q3])
            have N1 := Lib.hid fun w9 => rn_is q1 w9 ha1.2.2 (by decide)
            have G2 := Lib.hid fun w9 => rget_to q2 ha1.1 w9
            have S3 := Lib.hid fun w9 => rs_is q3 w9 ha1.2.1 (by decide)
            clear q1 q2 q3 ha1 hE hLL hsl HAK HAT
            have hbc : wr.heap.size ≠ pc := Ne.symm (Nat.ne_of_lt HC.out.lt)
            have hmb : pm ≠ wr.heap.size := Nat.ne_of_lt HM.out.lt
            have hob : po ≠ wr.heap.size := Nat.ne_of_lt HPB.out.lt
            have hqb : w.heap.size ≠ wr.heap.size := Nat.ne_of_lt HQ.out.lt
            have hsb : (Value.slice ua k uc).ownBlock ≠ some wr.heap.size := fun e => by have := (HS.out.lt _ e).2; omega
            have HWB := Lib.hid HG.out.size
            have HBE := Lib.hid (Blk.new wr #[.int .i64 0, .int .u64 0, .int .i64 0, .string ⟨#[]⟩] 164)
            have HA := (Gr.refl wr).alloc (.cells #[.int .i64 0, .int .u64 0, .int .i64 0, .string ⟨#[]⟩] 164)
            replace HG := Lib.hid (HG.out.trans HA)
            replace HQ := Lib.hid (HQ.out.gr HA)
            replace HPB := Lib.hid (HPB.out.gr HA)
            replace HM := Lib.hid (HM.out.gr HA)
            replace HC := Lib.hid (HC.out.gr HA)
            replace HS := Lib.hid (ownsRow_gr HA HS.out)
            clear HA
            have cw1 := c1
            clear c0 c1
            have c0 := HC.out.cell (i := 0) rfl
            have c1 := HC.out.cell (i := 1) rfl
            go_wp2_with fail
            clear cw1
            generalize wr.alloc (.cells #[.int .i64 0, .int .u64 0, .int .i64 0, .string ⟨#[]⟩] 164) = y0 at *
            generalize wr.heap.size = be at *
            refine (N1.out _).mono ?_
            rintro e y1 ⟨rfl, hg⟩
            replace HG := Lib.hid (HG.out.trans hg)
            replace HQ := Lib.hid (HQ.out.gr hg)
            replace HPB := Lib.hid (HPB.out.gr hg)
            replace HM := Lib.hid (HM.out.gr hg)
            replace HC := Lib.hid (HC.out.gr hg)
            replace HBE := Lib.hid (HBE.out.gr hg)
            replace HS := Lib.hid (ownsRow_gr hg HS.out)
            clear hg N1 c0 c1
            have c0 := HC.out.cell (i := 0) rfl
            have c1 := HC.out.cell (i := 1) rfl
            have d0 := HC.out.free 0
            have d1 := HC.out.free 1
            have b0 := HBE.out.cell (i := 0) rfl
            have g0 := HBE.out.free 0
            replace HC := Lib.hid (HC.out.set 0 (.string a1))
            replace HBE := Lib.hid (HBE.out.other hbc 0 (.string a1))
            replace HM := Lib.hid (HM.out.other hmc 0 (.string a1))
            replace HQ := Lib.hid (HQ.out.other hqc 0 (.string a1))
            replace HPB := Lib.hid (HPB.out.other hoc 0 (.string a1))
            replace HG := Lib.hid (HG.out.setCell (p := ⟨pc, 0, none⟩) HWC.out (.string a1))
            replace HS := Lib.hid (ownsRow_setCell_other (a := ⟨pc, 0, none⟩) HS.out hsc (.string a1))
            replace HC := Lib.hid (HC.out.set 1 (.int .i64 (x1 : Int)))
            replace HBE := Lib.hid (HBE.out.other hbc 1 (.int .i64 (x1 : Int)))
            replace HM := Lib.hid (HM.out.other hmc 1 (.int .i64 (x1 : Int)))
            replace HQ := Lib.hid (HQ.out.other hqc 1 (.int .i64 (x1 : Int)))
            replace HPB := Lib.hid (HPB.out.other hoc 1 (.int .i64 (x1 : Int)))
            replace HG := Lib.hid (HG.out.setCell (p := ⟨pc, 1, none⟩) HWC.out (.int .i64 (x1 : Int)))
            replace HS := Lib.hid (ownsRow_setCell_other (a := ⟨pc, 1, none⟩) HS.out hsc (.int .i64 (x1 : Int)))
            replace HBE := Lib.hid (HBE.out.set 0 (.int .i64 (sl : Int)))
            replace HC := Lib.hid (HC.out.other (Ne.symm hbc) 0 (.int .i64 (sl : Int)))
            replace HM := Lib.hid (HM.out.other hmb 0 (.int .i64 (sl : Int)))
            replace HQ := Lib.hid (HQ.out.other hqb 0 (.int .i64 (sl : Int)))
            replace HPB := Lib.hid (HPB.out.other hob 0 (.int .i64 (sl : Int)))
            replace HG := Lib.hid (HG.out.setCell (p := ⟨be, 0, none⟩) HWB.out (.int .i64 (sl : Int)))
            replace HS := Lib.hid (ownsRow_setCell_other (a := ⟨be, 0, none⟩) HS.out hsb (.int .i64 (sl : Int)))
            replace HC := Lib.hid (show Blk _ _ #[.string a1, .int .i64 (x1 : Int)] _ from HC.out)
            have n0 := HC.out.cell (i := 0) rfl
            have n1 := HC.out.cell (i := 1) rfl
            have b9 := HBE.out.cell (i := 0) rfl
            by_cases hx : x1 = 0
            · have hx' : ((x1 : Int) == 0) = true := by simp [hx]
              by_cases hle : (sl : Int) ≤ la
              · rw [if_pos hle, show failE x1 4 = 4 by unfold failE; rw [if_pos hx]] at G2
                clear hx
                have e1 := HC.out.free 1
                replace HC := Lib.hid (HC.out.set 1 (.int .i64 4))
                replace HBE := Lib.hid (HBE.out.other hbc 1 (.int .i64 4))
                replace HM := Lib.hid (HM.out.other hmc 1 (.int .i64 4))
                replace HQ := Lib.hid (HQ.out.other hqc 1 (.int .i64 4))
                replace HPB := Lib.hid (HPB.out.other hoc 1 (.int .i64 4))
                replace HG := Lib.hid (HG.out.setCell (p := ⟨pc, 1, none⟩) HWC.out (.int .i64 4))
                replace HS := Lib.hid (ownsRow_setCell_other (a := ⟨pc, 1, none⟩) HS.out hsc (.int .i64 4))
                replace HC := Lib.hid (show Blk _ _ #[.string a1, .int .i64 ((4 : Nat) : Int)] _ from HC.out)
                have p0 := HC.out.cell (i := 0) rfl
                have p1 := HC.out.cell (i := 1) rfl
                go_wp2_with fail
                clear c0 c1 d0 d1 b0 g0 e1 n0 n1 b9
                generalize ((((y1.setCell ⟨pc, 0, none⟩ (.string a1)).setCell ⟨pc, 1, none⟩ (.int .i64 (x1 : Int))).setCell ⟨be, 0, none⟩ (.int .i64 (sl : Int))).setCell ⟨pc, 1, none⟩ (.int .i64 4)) = y2 at *
                have c0 := p0
                have c1 := p1
                clear p0 p1
                refine (G2.out _).mono ?_
                rintro e y3 ⟨rfl, hg⟩
                replace HG := Lib.hid (HG.out.trans hg)
                replace HQ := Lib.hid (HQ.out.gr hg)
                replace HPB := Lib.hid (HPB.out.gr hg)
                replace HM := Lib.hid (HM.out.gr hg)
                replace HC := Lib.hid (HC.out.gr hg)
                replace HBE := Lib.hid (HBE.out.gr hg)
                replace HS := Lib.hid (ownsRow_gr hg HS.out)
                clear hg G2 c0 c1
                have c0 := HC.out.cell (i := 0) rfl
                have c1 := HC.out.cell (i := 1) rfl
                have d0 := HC.out.free 0
                have d1 := HC.out.free 1
                have b1 := HBE.out.cell (i := 1) rfl
                have g1 := HBE.out.free 1
                have b2 := HBE.out.cell (i := 2) rfl
                have g2 := HBE.out.free 2
                replace HC := Lib.hid (HC.out.set 0 (.string a2))
                replace HBE := Lib.hid (HBE.out.other hbc 0 (.string a2))
                replace HM := Lib.hid (HM.out.other hmc 0 (.string a2))
                replace HQ := Lib.hid (HQ.out.other hqc 0 (.string a2))
                replace HPB := Lib.hid (HPB.out.other hoc 0 (.string a2))
                replace HG := Lib.hid (HG.out.setCell (p := ⟨pc, 0, none⟩) HWC.out (.string a2))
                replace HS := Lib.hid (ownsRow_setCell_other (a := ⟨pc, 0, none⟩) HS.out hsc (.string a2))
                replace HC := Lib.hid (HC.out.set 1 (.int .i64 (x2 : Int)))
                replace HBE := Lib.hid (HBE.out.other hbc 1 (.int .i64 (x2 : Int)))
                replace HM := Lib.hid (HM.out.other hmc 1 (.int .i64 (x2 : Int)))
                replace HQ := Lib.hid (HQ.out.other hqc 1 (.int .i64 (x2 : Int)))
                replace HPB := Lib.hid (HPB.out.other hoc 1 (.int .i64 (x2 : Int)))
                replace HG := Lib.hid (HG.out.setCell (p := ⟨pc, 1, none⟩) HWC.out (.int .i64 (x2 : Int)))
                replace HS := Lib.hid (ownsRow_setCell_other (a := ⟨pc, 1, none⟩) HS.out hsc (.int .i64 (x2 : Int)))
                replace HBE := Lib.hid (HBE.out.set 1 (.int .u64 (bc : Int)))
                replace HC := Lib.hid (HC.out.other (Ne.symm hbc) 1 (.int .u64 (bc : Int)))
                replace HM := Lib.hid (HM.out.other hmb 1 (.int .u64 (bc : Int)))
                replace HQ := Lib.hid (HQ.out.other hqb 1 (.int .u64 (bc : Int)))
                replace HPB := Lib.hid (HPB.out.other hob 1 (.int .u64 (bc : Int)))
                replace HG := Lib.hid (HG.out.setCell (p := ⟨be, 1, none⟩) HWB.out (.int .u64 (bc : Int)))
                replace HS := Lib.hid (ownsRow_setCell_other (a := ⟨be, 1, none⟩) HS.out hsb (.int .u64 (bc : Int)))
                replace HBE := Lib.hid (HBE.out.set 2 (.int .i64 (bn : Int)))
                replace HC := Lib.hid (HC.out.other (Ne.symm hbc) 2 (.int .i64 (bn : Int)))
                replace HM := Lib.hid (HM.out.other hmb 2 (.int .i64 (bn : Int)))
                replace HQ := Lib.hid (HQ.out.other hqb 2 (.int .i64 (bn : Int)))
                replace HPB := Lib.hid (HPB.out.other hob 2 (.int .i64 (bn : Int)))
                replace HG := Lib.hid (HG.out.setCell (p := ⟨be, 2, none⟩) HWB.out (.int .i64 (bn : Int)))
                replace HS := Lib.hid (ownsRow_setCell_other (a := ⟨be, 2, none⟩) HS.out hsb (.int .i64 (bn : Int)))
                replace HC := Lib.hid (show Blk _ _ #[.string a2, .int .i64 (x2 : Int)] _ from HC.out)
                have n0 := HC.out.cell (i := 0) rfl
                have n1 := HC.out.cell (i := 1) rfl
                go_wp2_with fail
                clear c0 c1 d0 d1 b1 g1 b2 g2
                generalize ((((y3.setCell ⟨pc, 0, none⟩ (.string a2)).setCell ⟨pc, 1, none⟩ (.int .i64 (x2 : Int))).setCell ⟨be, 1, none⟩ (.int .u64 (bc : Int))).setCell ⟨be, 2, none⟩ (.int .i64 (bn : Int))) = y4 at *
                have c0 := n0
                have c1 := n1
                clear n0 n1
                refine (S3.out _).mono ?_
                rintro e y5 ⟨rfl, hg⟩
                replace HG := Lib.hid (HG.out.trans hg)
                replace HQ := Lib.hid (HQ.out.gr hg)
                replace HPB := Lib.hid (HPB.out.gr hg)
                replace HM := Lib.hid (HM.out.gr hg)
                replace HC := Lib.hid (HC.out.gr hg)
                replace HBE := Lib.hid (HBE.out.gr hg)
                replace HS := Lib.hid (ownsRow_gr hg HS.out)
                clear hg S3 c0 c1
                have c0 := HC.out.cell (i := 0) rfl
                have c1 := HC.out.cell (i := 1) rfl
                have d0 := HC.out.free 0
                have d1 := HC.out.free 1
                have b3 := HBE.out.cell (i := 3) rfl
                have g3 := HBE.out.free 3
                replace HC := Lib.hid (HC.out.set 0 (.string a3))
                replace HBE := Lib.hid (HBE.out.other hbc 0 (.string a3))
                replace HM := Lib.hid (HM.out.other hmc 0 (.string a3))
                replace HQ := Lib.hid (HQ.out.other hqc 0 (.string a3))
                replace HPB := Lib.hid (HPB.out.other hoc 0 (.string a3))
                replace HG := Lib.hid (HG.out.setCell (p := ⟨pc, 0, none⟩) HWC.out (.string a3))
                replace HS := Lib.hid (ownsRow_setCell_other (a := ⟨pc, 0, none⟩) HS.out hsc (.string a3))
                replace HC := Lib.hid (HC.out.set 1 (.int .i64 (x3 : Int)))
                replace HBE := Lib.hid (HBE.out.other hbc 1 (.int .i64 (x3 : Int)))
                replace HM := Lib.hid (HM.out.other hmc 1 (.int .i64 (x3 : Int)))
                replace HQ := Lib.hid (HQ.out.other hqc 1 (.int .i64 (x3 : Int)))
                replace HPB := Lib.hid (HPB.out.other hoc 1 (.int .i64 (x3 : Int)))
                replace HG := Lib.hid (HG.out.setCell (p := ⟨pc, 1, none⟩) HWC.out (.int .i64 (x3 : Int)))
                replace HS := Lib.hid (ownsRow_setCell_other (a := ⟨pc, 1, none⟩) HS.out hsc (.int .i64 (x3 : Int)))
                replace HBE := Lib.hid (HBE.out.set 3 (.string tx))
                replace HC := Lib.hid (HC.out.other (Ne.symm hbc) 3 (.string tx))
                replace HM := Lib.hid (HM.out.other hmb 3 (.string tx))
                replace HQ := Lib.hid (HQ.out.other hqb 3 (.string tx))
                replace HPB := Lib.hid (HPB.out.other hob 3 (.string tx))
                replace HG := Lib.hid (HG.out.setCell (p := ⟨be, 3, none⟩) HWB.out (.string tx))
                replace HS := Lib.hid (ownsRow_setCell_other (a := ⟨be, 3, none⟩) HS.out hsb (.string tx))
                replace HC := Lib.hid (show Blk _ _ #[.string a3, .int .i64 (x3 : Int)] _ from HC.out)
                have n0 := HC.out.cell (i := 0) rfl
                have n1 := HC.out.cell (i := 1) rfl
                replace HBE := Lib.hid (show Blk _ _ #[.int .i64 (sl : Int), .int .u64 (bc : Int), .int .i64 (bn : Int), .string tx] _ from HBE.out)
                go_upto_region 28 with fail
                clear c0 c1 d0 d1 b3 g3
                generalize (((y5.setCell ⟨pc, 0, none⟩ (.string a3)).setCell ⟨pc, 1, none⟩ (.int .i64 (x3 : Int))).setCell ⟨be, 3, none⟩ (.string tx)) = y6 at *
                clear n0 n1
                have b0 := HBE.out.cell (i := 0) rfl
                have b1 := HBE.out.cell (i := 1) rfl
                have b2 := HBE.out.cell (i := 2) rfl
                have b3 := HBE.out.cell (i := 3) rfl
                have m10 := HM.out.cell (i := 10) rfl
                have HBN := Lib.hid (Blk.new y6 (encE ⟨sl, bc, bn, tx⟩).toArray 164)
                have HA := (Gr.refl y6).alloc (.cells (encE ⟨sl, bc, bn, tx⟩).toArray 164)
                replace HG := Lib.hid (HG.out.trans HA)
                replace HQ := Lib.hid (HQ.out.gr HA)
                replace HPB := Lib.hid (HPB.out.gr HA)
                replace HM := Lib.hid (HM.out.gr HA)
                replace HC := Lib.hid (HC.out.gr HA)
                replace HS := Lib.hid (ownsRow_gr HA HS.out)
                have HWS := Lib.hid HG.out.size
                have HONE := Lib.hid (encE_one ⟨sl, bc, bn, tx⟩)
                clear HA HBE
                go_wp2_with (at_builtin; go_loud (refine wpList_append_lies _ rfl (.tmp 127) (.tmp 129) 79 rfl w.heap.size 164 i0 (.agg #[.int .i64 0, .int .u64 0, .int .i64 0, .string ⟨#[]⟩]) 4 40 Try.underlying79 hi0 hz0 hz1 hz2 rfl (by decide) _ _ _ rfl HS.out ⟨y6.heap.size, 0, none⟩ 1 1 (encE ⟨sl, bc, bn, tx⟩) rfl rfl ?c1a ?c2a Nat.one_pos ?c3a ?c4a ?c5a _ rfl ?_))
                case c1a => exact fun j u hj => World.news_of_block HBN.out j u hj
                case c2a => exact HONE.out
                case c3a => unfold maxLen; omega
                case c4a => omega
                case c5a => have := HWS.out; simp at this ⊢; omega
                intro g7 cap7 w7 hown7 hgrow7 hat7 hlt7
                replace HG := Lib.hid (HG.out.append HS.out hgrow7)
                replace HQ := Lib.hid (HQ.out.grownB hgrow7 (row_off HQ.out HS.out (by decide)))
                replace HPB := Lib.hid (HPB.out.grownB hgrow7 (row_off HPB.out HS.out (by decide)))
                replace HC := Lib.hid (HC.out.grownB hgrow7 (row_off HC.out HS.out (by decide)))
                replace HM := Lib.hid (HM.out.grownB hgrow7 (row_off HM.out HS.out (by decide)))
                replace HS := Lib.hid hown7
                clear hown7 hgrow7 hat7 hlt7 b0 b1 b2 b3 m10 HBN HONE HWS
                have m10 := HM.out.cell (i := 10) rfl
                have f10 := HM.out.free 10
                replace HS := Lib.hid (ownsRow_setCell_other (a := ⟨pm, 10, none⟩) HS.out (row_off HM.out HS.out (by decide)) (.slice (some ⟨g7, 0, none⟩) (k + 1) cap7))
                replace HM := Lib.hid (HM.out.set 10 (.slice (some ⟨g7, 0, none⟩) (k + 1) cap7))
                replace HC := Lib.hid (HC.out.other (Ne.symm hmc) 10 (.slice (some ⟨g7, 0, none⟩) (k + 1) cap7))
                replace HQ := Lib.hid (HQ.out.other hqm 10 (.slice (some ⟨g7, 0, none⟩) (k + 1) cap7))
                replace HPB := Lib.hid (HPB.out.other hom 10 (.slice (some ⟨g7, 0, none⟩) (k + 1) cap7))
                replace HG := Lib.hid (HG.out.setCell (p := ⟨pm, 10, none⟩) HWM.out (.slice (some ⟨g7, 0, none⟩) (k + 1) cap7))
                rw [← rcells_snoc] at HS
                go_wp2
                go_roundw
                case rel => exact ⟨k + 1, some ⟨g7, 0, none⟩, cap7, by omega, by go_num, by rw [HN.out], by rw [HN.out]; exact HC, HM, HPB, HQ, HG, by rw [HN.out]; exact HS⟩
                case measure => simp [intOf]; omega
              · rw [if_neg hle] at G2
                clear hx
                go_wp2_with fail
                clear c0 c1 d0 d1 b0 g0
                generalize (((y1.setCell ⟨pc, 0, none⟩ (.string a1)).setCell ⟨pc, 1, none⟩ (.int .i64 (x1 : Int))).setCell ⟨be, 0, none⟩ (.int .i64 (sl : Int))) = y2 at *
                have c0 := n0
                have c1 := n1
                clear n0 n1 b9
                refine (G2.out _).mono ?_
                rintro e y3 ⟨rfl, hg⟩
                replace HG := Lib.hid (HG.out.trans hg)
                replace HQ := Lib.hid (HQ.out.gr hg)
                replace HPB := Lib.hid (HPB.out.gr hg)
                replace HM := Lib.hid (HM.out.gr hg)
                replace HC := Lib.hid (HC.out.gr hg)
                replace HBE := Lib.hid (HBE.out.gr hg)
                replace HS := Lib.hid (ownsRow_gr hg HS.out)
                clear hg G2 c0 c1
                have c0 := HC.out.cell (i := 0) rfl
                have c1 := HC.out.cell (i := 1) rfl
                have d0 := HC.out.free 0
                have d1 := HC.out.free 1
                have b1 := HBE.out.cell (i := 1) rfl
                have g1 := HBE.out.free 1
                have b2 := HBE.out.cell (i := 2) rfl
                have g2 := HBE.out.free 2
                replace HC := Lib.hid (HC.out.set 0 (.string a2))
                replace HBE := Lib.hid (HBE.out.other hbc 0 (.string a2))
                replace HM := Lib.hid (HM.out.other hmc 0 (.string a2))
                replace HQ := Lib.hid (HQ.out.other hqc 0 (.string a2))
                replace HPB := Lib.hid (HPB.out.other hoc 0 (.string a2))
                replace HG := Lib.hid (HG.out.setCell (p := ⟨pc, 0, none⟩) HWC.out (.string a2))
                replace HS := Lib.hid (ownsRow_setCell_other (a := ⟨pc, 0, none⟩) HS.out hsc (.string a2))
                replace HC := Lib.hid (HC.out.set 1 (.int .i64 (x2 : Int)))
                replace HBE := Lib.hid (HBE.out.other hbc 1 (.int .i64 (x2 : Int)))
                replace HM := Lib.hid (HM.out.other hmc 1 (.int .i64 (x2 : Int)))
                replace HQ := Lib.hid (HQ.out.other hqc 1 (.int .i64 (x2 : Int)))
                replace HPB := Lib.hid (HPB.out.other hoc 1 (.int .i64 (x2 : Int)))
                replace HG := Lib.hid (HG.out.setCell (p := ⟨pc, 1, none⟩) HWC.out (.int .i64 (x2 : Int)))
                replace HS := Lib.hid (ownsRow_setCell_other (a := ⟨pc, 1, none⟩) HS.out hsc (.int .i64 (x2 : Int)))
                replace HBE := Lib.hid (HBE.out.set 1 (.int .u64 (bc : Int)))
                replace HC := Lib.hid (HC.out.other (Ne.symm hbc) 1 (.int .u64 (bc : Int)))
                replace HM := Lib.hid (HM.out.other hmb 1 (.int .u64 (bc : Int)))
                replace HQ := Lib.hid (HQ.out.other hqb 1 (.int .u64 (bc : Int)))
                replace HPB := Lib.hid (HPB.out.other hob 1 (.int .u64 (bc : Int)))
                replace HG := Lib.hid (HG.out.setCell (p := ⟨be, 1, none⟩) HWB.out (.int .u64 (bc : Int)))
                replace HS := Lib.hid (ownsRow_setCell_other (a := ⟨be, 1, none⟩) HS.out hsb (.int .u64 (bc : Int)))
                replace HBE := Lib.hid (HBE.out.set 2 (.int .i64 (bn : Int)))
                replace HC := Lib.hid (HC.out.other (Ne.symm hbc) 2 (.int .i64 (bn : Int)))
                replace HM := Lib.hid (HM.out.other hmb 2 (.int .i64 (bn : Int)))
                replace HQ := Lib.hid (HQ.out.other hqb 2 (.int .i64 (bn : Int)))
                replace HPB := Lib.hid (HPB.out.other hob 2 (.int .i64 (bn : Int)))
                replace HG := Lib.hid (HG.out.setCell (p := ⟨be, 2, none⟩) HWB.out (.int .i64 (bn : Int)))
                replace HS := Lib.hid (ownsRow_setCell_other (a := ⟨be, 2, none⟩) HS.out hsb (.int .i64 (bn : Int)))
                replace HC := Lib.hid (show Blk _ _ #[.string a2, .int .i64 (x2 : Int)] _ from HC.out)
                have n0 := HC.out.cell (i := 0) rfl
                have n1 := HC.out.cell (i := 1) rfl
                go_wp2_with fail
                clear c0 c1 d0 d1 b1 g1 b2 g2
                generalize ((((y3.setCell ⟨pc, 0, none⟩ (.string a2)).setCell ⟨pc, 1, none⟩ (.int .i64 (x2 : Int))).setCell ⟨be, 1, none⟩ (.int .u64 (bc : Int))).setCell ⟨be, 2, none⟩ (.int .i64 (bn : Int))) = y4 at *
                have c0 := n0
                have c1 := n1
                clear n0 n1
                refine (S3.out _).mono ?_
                rintro e y5 ⟨rfl, hg⟩
                replace HG := Lib.hid (HG.out.trans hg)
                replace HQ := Lib.hid (HQ.out.gr hg)
                replace HPB := Lib.hid (HPB.out.gr hg)
                replace HM := Lib.hid (HM.out.gr hg)
                replace HC := Lib.hid (HC.out.gr hg)
                replace HBE := Lib.hid (HBE.out.gr hg)
                replace HS := Lib.hid (ownsRow_gr hg HS.out)
                clear hg S3 c0 c1
                have c0 := HC.out.cell (i := 0) rfl
                have c1 := HC.out.cell (i := 1) rfl
                have d0 := HC.out.free 0
                have d1 := HC.out.free 1
                have b3 := HBE.out.cell (i := 3) rfl
                have g3 := HBE.out.free 3
                replace HC := Lib.hid (HC.out.set 0 (.string a3))
                replace HBE := Lib.hid (HBE.out.other hbc 0 (.string a3))
                replace HM := Lib.hid (HM.out.other hmc 0 (.string a3))
                replace HQ := Lib.hid (HQ.out.other hqc 0 (.string a3))
                replace HPB := Lib.hid (HPB.out.other hoc 0 (.string a3))
                replace HG := Lib.hid (HG.out.setCell (p := ⟨pc, 0, none⟩) HWC.out (.string a3))
                replace HS := Lib.hid (ownsRow_setCell_other (a := ⟨pc, 0, none⟩) HS.out hsc (.string a3))
                replace HC := Lib.hid (HC.out.set 1 (.int .i64 (x3 : Int)))
                replace HBE := Lib.hid (HBE.out.other hbc 1 (.int .i64 (x3 : Int)))
                replace HM := Lib.hid (HM.out.other hmc 1 (.int .i64 (x3 : Int)))
                replace HQ := Lib.hid (HQ.out.other hqc 1 (.int .i64 (x3 : Int)))
                replace HPB := Lib.hid (HPB.out.other hoc 1 (.int .i64 (x3 : Int)))
                replace HG := Lib.hid (HG.out.setCell (p := ⟨pc, 1, none⟩) HWC.out (.int .i64 (x3 : Int)))
                replace HS := Lib.hid (ownsRow_setCell_other (a := ⟨pc, 1, none⟩) HS.out hsc (.int .i64 (x3 : Int)))
                replace HBE := Lib.hid (HBE.out.set 3 (.string tx))
                replace HC := Lib.hid (HC.out.other (Ne.symm hbc) 3 (.string tx))
                replace HM := Lib.hid (HM.out.other hmb 3 (.string tx))
                replace HQ := Lib.hid (HQ.out.other hqb 3 (.string tx))
                replace HPB := Lib.hid (HPB.out.other hob 3 (.string tx))
                replace HG := Lib.hid (HG.out.setCell (p := ⟨be, 3, none⟩) HWB.out (.string tx))
                replace HS := Lib.hid (ownsRow_setCell_other (a := ⟨be, 3, none⟩) HS.out hsb (.string tx))
                replace HC := Lib.hid (show Blk _ _ #[.string a3, .int .i64 (x3 : Int)] _ from HC.out)
                have n0 := HC.out.cell (i := 0) rfl
                have n1 := HC.out.cell (i := 1) rfl
                replace HBE := Lib.hid (show Blk _ _ #[.int .i64 (sl : Int), .int .u64 (bc : Int), .int .i64 (bn : Int), .string tx] _ from HBE.out)
                go_upto_region 28 with fail
                clear c0 c1 d0 d1 b3 g3
                generalize (((y5.setCell ⟨pc, 0, none⟩ (.string a3)).setCell ⟨pc, 1, none⟩ (.int .i64 (x3 : Int))).setCell ⟨be, 3, none⟩ (.string tx)) = y6 at *
                clear n0 n1
                have b0 := HBE.out.cell (i := 0) rfl
                have b1 := HBE.out.cell (i := 1) rfl
                have b2 := HBE.out.cell (i := 2) rfl
                have b3 := HBE.out.cell (i := 3) rfl
                have m10 := HM.out.cell (i := 10) rfl
                have HBN := Lib.hid (Blk.new y6 (encE ⟨sl, bc, bn, tx⟩).toArray 164)
                have HA := (Gr.refl y6).alloc (.cells (encE ⟨sl, bc, bn, tx⟩).toArray 164)
                replace HG := Lib.hid (HG.out.trans HA)
                replace HQ := Lib.hid (HQ.out.gr HA)
                replace HPB := Lib.hid (HPB.out.gr HA)
                replace HM := Lib.hid (HM.out.gr HA)
                replace HC := Lib.hid (HC.out.gr HA)
                replace HS := Lib.hid (ownsRow_gr HA HS.out)
                have HWS := Lib.hid HG.out.size
                have HONE := Lib.hid (encE_one ⟨sl, bc, bn, tx⟩)
                clear HA HBE
                go_wp2_with (at_builtin; go_loud (refine wpList_append_lies _ rfl (.tmp 127) (.tmp 129) 79 rfl w.heap.size 164 i0 (.agg #[.int .i64 0, .int .u64 0, .int .i64 0, .string ⟨#[]⟩]) 4 40 Try.underlying79 hi0 hz0 hz1 hz2 rfl (by decide) _ _ _ rfl HS.out ⟨y6.heap.size, 0, none⟩ 1 1 (encE ⟨sl, bc, bn, tx⟩) rfl rfl ?c1b ?c2b Nat.one_pos ?c3b ?c4b ?c5b _ rfl ?_))
                case c1b => exact fun j u hj => World.news_of_block HBN.out j u hj
                case c2b => exact HONE.out
                case c3b => unfold maxLen; omega
                case c4b => omega
                case c5b => have := HWS.out; simp at this ⊢; omega
                intro g7 cap7 w7 hown7 hgrow7 hat7 hlt7
                replace HG := Lib.hid (HG.out.append HS.out hgrow7)
                replace HQ := Lib.hid (HQ.out.grownB hgrow7 (row_off HQ.out HS.out (by decide)))
                replace HPB := Lib.hid (HPB.out.grownB hgrow7 (row_off HPB.out HS.out (by decide)))
                replace HC := Lib.hid (HC.out.grownB hgrow7 (row_off HC.out HS.out (by decide)))
                replace HM := Lib.hid (HM.out.grownB hgrow7 (row_off HM.out HS.out (by decide)))
                replace HS := Lib.hid hown7
                clear hown7 hgrow7 hat7 hlt7 b0 b1 b2 b3 m10 HBN HONE HWS
                have m10 := HM.out.cell (i := 10) rfl
                have f10 := HM.out.free 10
                replace HS := Lib.hid (ownsRow_setCell_other (a := ⟨pm, 10, none⟩) HS.out (row_off HM.out HS.out (by decide)) (.slice (some ⟨g7, 0, none⟩) (k + 1) cap7))
                replace HM := Lib.hid (HM.out.set 10 (.slice (some ⟨g7, 0, none⟩) (k + 1) cap7))
                replace HC := Lib.hid (HC.out.other (Ne.symm hmc) 10 (.slice (some ⟨g7, 0, none⟩) (k + 1) cap7))
                replace HQ := Lib.hid (HQ.out.other hqm 10 (.slice (some ⟨g7, 0, none⟩) (k + 1) cap7))
                replace HPB := Lib.hid (HPB.out.other hom 10 (.slice (some ⟨g7, 0, none⟩) (k + 1) cap7))
                replace HG := Lib.hid (HG.out.setCell (p := ⟨pm, 10, none⟩) HWM.out (.slice (some ⟨g7, 0, none⟩) (k + 1) cap7))
                rw [← rcells_snoc] at HS
                go_wp2
                go_roundw
                case rel => exact ⟨k + 1, some ⟨g7, 0, none⟩, cap7, by omega, by go_num, by rw [HN.out], by rw [HN.out]; exact HC, HM, HPB, HQ, HG, by rw [HN.out]; exact HS⟩
                case measure => simp [intOf]; omega
            · have hx' : ((x1 : Int) == 0) = false := by simp; omega
              rw [show (if (sl : Int) ≤ la then failE x1 4 else x1) = x1 by split <;> simp [failE, hx]] at G2
              clear hx
              go_wp2_with fail
              clear c0 c1 d0 d1 b0 g0
              generalize (((y1.setCell ⟨pc, 0, none⟩ (.string a1)).setCell ⟨pc, 1, none⟩ (.int .i64 (x1 : Int))).setCell ⟨be, 0, none⟩ (.int .i64 (sl : Int))) = y2 at *
              have c0 := n0
              have c1 := n1
              clear n0 n1 b9
              refine (G2.out _).mono ?_
              rintro e y3 ⟨rfl, hg⟩
              replace HG := Lib.hid (HG.out.trans hg)
              replace HQ := Lib.hid (HQ.out.gr hg)
              replace HPB := Lib.hid (HPB.out.gr hg)
              replace HM := Lib.hid (HM.out.gr hg)
              replace HC := Lib.hid (HC.out.gr hg)
              replace HBE := Lib.hid (HBE.out.gr hg)
              replace HS := Lib.hid (ownsRow_gr hg HS.out)
              clear hg G2 c0 c1
              have c0 := HC.out.cell (i := 0) rfl
              have c1 := HC.out.cell (i := 1) rfl
              have d0 := HC.out.free 0
              have d1 := HC.out.free 1
              have b1 := HBE.out.cell (i := 1) rfl
              have g1 := HBE.out.free 1
              have b2 := HBE.out.cell (i := 2) rfl
              have g2 := HBE.out.free 2
              replace HC := Lib.hid (HC.out.set 0 (.string a2))
              replace HBE := Lib.hid (HBE.out.other hbc 0 (.string a2))
              replace HM := Lib.hid (HM.out.other hmc 0 (.string a2))
              replace HQ := Lib.hid (HQ.out.other hqc 0 (.string a2))
              replace HPB := Lib.hid (HPB.out.other hoc 0 (.string a2))
              replace HG := Lib.hid (HG.out.setCell (p := ⟨pc, 0, none⟩) HWC.out (.string a2))
              replace HS := Lib.hid (ownsRow_setCell_other (a := ⟨pc, 0, none⟩) HS.out hsc (.string a2))
              replace HC := Lib.hid (HC.out.set 1 (.int .i64 (x2 : Int)))
              replace HBE := Lib.hid (HBE.out.other hbc 1 (.int .i64 (x2 : Int)))
              replace HM := Lib.hid (HM.out.other hmc 1 (.int .i64 (x2 : Int)))
              replace HQ := Lib.hid (HQ.out.other hqc 1 (.int .i64 (x2 : Int)))
              replace HPB := Lib.hid (HPB.out.other hoc 1 (.int .i64 (x2 : Int)))
              replace HG := Lib.hid (HG.out.setCell (p := ⟨pc, 1, none⟩) HWC.out (.int .i64 (x2 : Int)))
              replace HS := Lib.hid (ownsRow_setCell_other (a := ⟨pc, 1, none⟩) HS.out hsc (.int .i64 (x2 : Int)))
              replace HBE := Lib.hid (HBE.out.set 1 (.int .u64 (bc : Int)))
              replace HC := Lib.hid (HC.out.other (Ne.symm hbc) 1 (.int .u64 (bc : Int)))
              replace HM := Lib.hid (HM.out.other hmb 1 (.int .u64 (bc : Int)))
              replace HQ := Lib.hid (HQ.out.other hqb 1 (.int .u64 (bc : Int)))
              replace HPB := Lib.hid (HPB.out.other hob 1 (.int .u64 (bc : Int)))
              replace HG := Lib.hid (HG.out.setCell (p := ⟨be, 1, none⟩) HWB.out (.int .u64 (bc : Int)))
              replace HS := Lib.hid (ownsRow_setCell_other (a := ⟨be, 1, none⟩) HS.out hsb (.int .u64 (bc : Int)))
              replace HBE := Lib.hid (HBE.out.set 2 (.int .i64 (bn : Int)))
              replace HC := Lib.hid (HC.out.other (Ne.symm hbc) 2 (.int .i64 (bn : Int)))
              replace HM := Lib.hid (HM.out.other hmb 2 (.int .i64 (bn : Int)))
              replace HQ := Lib.hid (HQ.out.other hqb 2 (.int .i64 (bn : Int)))
              replace HPB := Lib.hid (HPB.out.other hob 2 (.int .i64 (bn : Int)))
              replace HG := Lib.hid (HG.out.setCell (p := ⟨be, 2, none⟩) HWB.out (.int .i64 (bn : Int)))
              replace HS := Lib.hid (ownsRow_setCell_other (a := ⟨be, 2, none⟩) HS.out hsb (.int .i64 (bn : Int)))
              replace HC := Lib.hid (show Blk _ _ #[.string a2, .int .i64 (x2 : Int)] _ from HC.out)
              have n0 := HC.out.cell (i := 0) rfl
              have n1 := HC.out.cell (i := 1) rfl
              go_wp2_with fail
              clear c0 c1 d0 d1 b1 g1 b2 g2
              generalize ((((y3.setCell ⟨pc, 0, none⟩ (.string a2)).setCell ⟨pc, 1, none⟩ (.int .i64 (x2 : Int))).setCell ⟨be, 1, none⟩ (.int .u64 (bc : Int))).setCell ⟨be, 2, none⟩ (.int .i64 (bn : Int))) = y4 at *
              have c0 := n0
              have c1 := n1
              clear n0 n1
              refine (S3.out _).mono ?_
              rintro e y5 ⟨rfl, hg⟩
              replace HG := Lib.hid (HG.out.trans hg)
              replace HQ := Lib.hid (HQ.out.gr hg)
              replace HPB := Lib.hid (HPB.out.gr hg)
              replace HM := Lib.hid (HM.out.gr hg)
              replace HC := Lib.hid (HC.out.gr hg)
              replace HBE := Lib.hid (HBE.out.gr hg)
              replace HS := Lib.hid (ownsRow_gr hg HS.out)
              clear hg S3 c0 c1
              have c0 := HC.out.cell (i := 0) rfl
              have c1 := HC.out.cell (i := 1) rfl
              have d0 := HC.out.free 0
              have d1 := HC.out.free 1
              have b3 := HBE.out.cell (i := 3) rfl
              have g3 := HBE.out.free 3
              replace HC := Lib.hid (HC.out.set 0 (.string a3))
              replace HBE := Lib.hid (HBE.out.other hbc 0 (.string a3))
              replace HM := Lib.hid (HM.out.other hmc 0 (.string a3))
              replace HQ := Lib.hid (HQ.out.other hqc 0 (.string a3))
              replace HPB := Lib.hid (HPB.out.other hoc 0 (.string a3))
              replace HG := Lib.hid (HG.out.setCell (p := ⟨pc, 0, none⟩) HWC.out (.string a3))
              replace HS := Lib.hid (ownsRow_setCell_other (a := ⟨pc, 0, none⟩) HS.out hsc (.string a3))
              replace HC := Lib.hid (HC.out.set 1 (.int .i64 (x3 : Int)))
              replace HBE := Lib.hid (HBE.out.other hbc 1 (.int .i64 (x3 : Int)))
              replace HM := Lib.hid (HM.out.other hmc 1 (.int .i64 (x3 : Int)))
              replace HQ := Lib.hid (HQ.out.other hqc 1 (.int .i64 (x3 : Int)))
              replace HPB := Lib.hid (HPB.out.other hoc 1 (.int .i64 (x3 : Int)))
              replace HG := Lib.hid (HG.out.setCell (p := ⟨pc, 1, none⟩) HWC.out (.int .i64 (x3 : Int)))
              replace HS := Lib.hid (ownsRow_setCell_other (a := ⟨pc, 1, none⟩) HS.out hsc (.int .i64 (x3 : Int)))
              replace HBE := Lib.hid (HBE.out.set 3 (.string tx))
              replace HC := Lib.hid (HC.out.other (Ne.symm hbc) 3 (.string tx))
              replace HM := Lib.hid (HM.out.other hmb 3 (.string tx))
              replace HQ := Lib.hid (HQ.out.other hqb 3 (.string tx))
              replace HPB := Lib.hid (HPB.out.other hob 3 (.string tx))
              replace HG := Lib.hid (HG.out.setCell (p := ⟨be, 3, none⟩) HWB.out (.string tx))
              replace HS := Lib.hid (ownsRow_setCell_other (a := ⟨be, 3, none⟩) HS.out hsb (.string tx))
              replace HC := Lib.hid (show Blk _ _ #[.string a3, .int .i64 (x3 : Int)] _ from HC.out)
              have n0 := HC.out.cell (i := 0) rfl
              have n1 := HC.out.cell (i := 1) rfl
              replace HBE := Lib.hid (show Blk _ _ #[.int .i64 (sl : Int), .int .u64 (bc : Int), .int .i64 (bn : Int), .string tx] _ from HBE.out)
              go_upto_region 28 with fail
              clear c0 c1 d0 d1 b3 g3
              generalize (((y5.setCell ⟨pc, 0, none⟩ (.string a3)).setCell ⟨pc, 1, none⟩ (.int .i64 (x3 : Int))).setCell ⟨be, 3, none⟩ (.string tx)) = y6 at *
              clear n0 n1
              have b0 := HBE.out.cell (i := 0) rfl
              have b1 := HBE.out.cell (i := 1) rfl
              have b2 := HBE.out.cell (i := 2) rfl
              have b3 := HBE.out.cell (i := 3) rfl
              have m10 := HM.out.cell (i := 10) rfl
              have HBN := Lib.hid (Blk.new y6 (encE ⟨sl, bc, bn, tx⟩).toArray 164)
              have HA := (Gr.refl y6).alloc (.cells (encE ⟨sl, bc, bn, tx⟩).toArray 164)
              replace HG := Lib.hid (HG.out.trans HA)
              replace HQ := Lib.hid (HQ.out.gr HA)
              replace HPB := Lib.hid (HPB.out.gr HA)
              replace HM := Lib.hid (HM.out.gr HA)
              replace HC := Lib.hid (HC.out.gr HA)
              replace HS := Lib.hid (ownsRow_gr HA HS.out)
              have HWS := Lib.hid HG.out.size
              have HONE := Lib.hid (encE_one ⟨sl, bc, bn, tx⟩)
              clear HA HBE
              go_wp2_with (at_builtin; go_loud (refine wpList_append_lies _ rfl (.tmp 127) (.tmp 129) 79 rfl w.heap.size 164 i0 (.agg #[.int .i64 0, .int .u64 0, .int .i64 0, .string ⟨#[]⟩]) 4 40 Try.underlying79 hi0 hz0 hz1 hz2 rfl (by decide) _ _ _ rfl HS.out ⟨y6.heap.size, 0, none⟩ 1 1 (encE ⟨sl, bc, bn, tx⟩) rfl rfl ?c1c ?c2c Nat.one_pos ?c3c ?c4c ?c5c _ rfl ?_))
              case c1c => exact fun j u hj => World.news_of_block HBN.out j u hj
              case c2c => exact HONE.out
              case c3c => unfold maxLen; omega
              case c4c => omega
              case c5c => have := HWS.out; simp at this ⊢; omega
              intro g7 cap7 w7 hown7 hgrow7 hat7 hlt7
              replace HG := Lib.hid (HG.out.append HS.out hgrow7)
              replace HQ := Lib.hid (HQ.out.grownB hgrow7 (row_off HQ.out HS.out (by decide)))
              replace HPB := Lib.hid (HPB.out.grownB hgrow7 (row_off HPB.out HS.out (by decide)))
              replace HC := Lib.hid (HC.out.grownB hgrow7 (row_off HC.out HS.out (by decide)))
              replace HM := Lib.hid (HM.out.grownB hgrow7 (row_off HM.out HS.out (by decide)))
              replace HS := Lib.hid hown7
              clear hown7 hgrow7 hat7 hlt7 b0 b1 b2 b3 m10 HBN HONE HWS
              have m10 := HM.out.cell (i := 10) rfl
              have f10 := HM.out.free 10
              replace HS := Lib.hid (ownsRow_setCell_other (a := ⟨pm, 10, none⟩) HS.out (row_off HM.out HS.out (by decide)) (.slice (some ⟨g7, 0, none⟩) (k + 1) cap7))
              replace HM := Lib.hid (HM.out.set 10 (.slice (some ⟨g7, 0, none⟩) (k + 1) cap7))
              replace HC := Lib.hid (HC.out.other (Ne.symm hmc) 10 (.slice (some ⟨g7, 0, none⟩) (k + 1) cap7))
              replace HQ := Lib.hid (HQ.out.other hqm 10 (.slice (some ⟨g7, 0, none⟩) (k + 1) cap7))
              replace HPB := Lib.hid (HPB.out.other hom 10 (.slice (some ⟨g7, 0, none⟩) (k + 1) cap7))
              replace HG := Lib.hid (HG.out.setCell (p := ⟨pm, 10, none⟩) HWM.out (.slice (some ⟨g7, 0, none⟩) (k + 1) cap7))
              rw [← rcells_snoc] at HS
              go_wp2
              go_roundw
              case rel => exact ⟨k + 1, some ⟨g7, 0, none⟩, cap7, by omega, by go_num, by rw [HN.out], by rw [HN.out]; exact HC, HM, HPB, HQ, HG, by rw [HN.out]; exact HS⟩
              case measure => simp [intOf]; omega
          · have he4 : ((ea : Int) == 0) = false := by simp; omega
            have he5 : ((ea : Int) != 0) = true := by simp; omega
            have HRES := Lib.hid (show P = (ea, Mg.zero) from by rw [HAK.out (.inr ⟨hea, by omega⟩), if_pos hea])
            clear HAK HAT hE hsl hLL hea
            go_wp2
            obtain ⟨ms, hms, hmsl, hst, hgr, hBl⟩ := blk_store (P := Try.prog) (HQ.out.gr (Gr.refl wr).drew) [.int .i64 0, .int .i64 0, .int .i64 0, .int .i64 0, .int .u64 0, .int .i64 0, .int .i64 0, .int .i64 0, .bool false, .string ⟨#[]⟩, .slice none 0 0] rfl (eleven_one _ _ _ _ _ _ _ _ _ _ _ _ _)
            have HGF := Lib.hid (gr_put (HG.out.trans (Gr.refl wr).drew) hgr HWQ.out)
            have HC9 := Lib.hid ((HC.out.gr (Gr.refl wr).drew).put_other hgr (Ne.symm hqc))
            have HMS := Lib.hid hms
            have HBL := Lib.hid hBl
            have hl11 : ms.length = 11 := hmsl
            clear hms hmsl hgr hBl HQ HG
            have c1 := HC.out.cell (i := 1) rfl
            refine wp_region_held_drew (S := (fun w9 => w9.cell? ⟨pc, 1, none⟩ = some (.int .i64 (ea : Int)))) (by kernel_rfl) ?invu (fun h0 => ?_)
            case invu => ((try dsimp only); (exact c1))
            refine wpAnyH_take (i := 0) (oi := { dst := some 153, op := Go.Op.build 81 #[], type := 81, pos := "ref.go:113", after := #[], guard := none }) (v := (.agg ms.toArray)) rfl (by kernel_rfl) (by kernel_rfl) (by kernel_rfl) (fun _ _ _ h => h) (Or.inl ⟨by rfl, ?ru1⟩) (by assumption) ?_
            case ru1 => (intro w hSw; (try dsimp only at hSw); go_simp; all_goals (rw [← HMS.out]))
            try simp only [Act.put, List.setIfInBounds_toArray, List.set_cons_zero, List.set_cons_succ]
            refine wpAnyH_take (i := 1) (oi := { dst := some 154, op := Go.Op.fieldAddr 181 (Go.Operand.tmp 7) 1, type := 0, pos := "ref.go:113", after := #[{ on := 3, ground := Go.Ground.gcOnly Go.Departure.lateStores }], guard := none }) (v := ?vu2) rfl (by kernel_rfl) (by kernel_rfl) (by kernel_rfl) (fun _ _ _ h => h) (Or.inl ⟨by rfl, ?ru2⟩) (by assumption) ?_
            case ru2 => (intro w hSw; (try dsimp only at hSw); (go_simp <;> with_reducible rfl))
            try simp only [Act.put, List.setIfInBounds_toArray, List.set_cons_zero, List.set_cons_succ]
            refine wpAnyH_take (i := 2) (oi := { dst := some 155, op := Go.Op.load 3 (Go.Operand.tmp 154), type := 3, pos := "ref.go:113", after := #[{ on := 1, ground := Go.Ground.data }, { on := 3, ground := Go.Ground.gcOnly Go.Departure.lateStores }], guard := none }) (v := ?vu3) rfl (by kernel_rfl) (by kernel_rfl) (by kernel_rfl) (fun _ _ _ h => h) (Or.inl ⟨by rfl, ?ru3⟩) (by assumption) ?_
            case ru3 => (intro w hSw; (try dsimp only at hSw); (go_simp <;> with_reducible rfl))
            try simp only [Act.put, List.setIfInBounds_toArray, List.set_cons_zero, List.set_cons_succ]
            refine wpAnyH_ready (rs := [3]) (by kernel_rfl) (by simp) ?_
            refine AllReadyH.cons (o := { dst := none, op := Go.Op.store 81 (Go.Operand.tmp 2) (Go.Operand.tmp 153), type := 0, pos := "ref.go:113", after := #[{ on := 0, ground := Go.Ground.data }, { on := 0, ground := Go.Ground.phase }, { on := 1, ground := Go.Ground.textOnly Go.Departure.lateStores }, { on := 2, ground := Go.Ground.textOnly Go.Departure.lateStores }], guard := none }) rfl (fun K hK => ?_) AllReadyH.nil
            go_simp
            skip
            first | refine hK.out _ _ ?su4 (fun h4 => ?_) | (go_wp2_with fail; refine hK.out _ _ ?su4 (fun h4 => ?_))
            case su4 => ((try dsimp only); (exact HC9.out.cell (i := 1) rfl))
            clear hK K h0
            try simp only [Act.put, List.setIfInBounds_toArray, List.set_cons_zero, List.set_cons_succ]
            refine wpAnyH_take (i := 4) (oi := { dst := some 3, op := Go.Op.assign (Go.Operand.tmp 155), type := 3, pos := "ref.go:113", after := #[{ on := 2, ground := Go.Ground.data }, { on := 3, ground := Go.Ground.chain }, { on := 0, ground := Go.Ground.phase }, { on := 1, ground := Go.Ground.phase }, { on := 2, ground := Go.Ground.phase }, { on := 3, ground := Go.Ground.phase }], guard := none }) (v := ?vu5) rfl (by kernel_rfl) (by kernel_rfl) (by kernel_rfl) (fun _ _ _ h => h) (Or.inl ⟨by rfl, ?ru5⟩) (by assumption) ?_
            case ru5 => (intro w hSw; (try dsimp only at hSw); (go_simp <;> with_reducible rfl))
            try simp only [Act.put, List.setIfInBounds_toArray, List.set_cons_zero, List.set_cons_succ]
            refine wpAnyH_done (by kernel_rfl) ?_ _
            clear c1
            have y0 := HBL.out.cell (i := 0) rfl
            have y1 := HBL.out.cell (i := 1) rfl
            have y2 := HBL.out.cell (i := 2) rfl
            have y3 := HBL.out.cell (i := 3) rfl
            have y4 := HBL.out.cell (i := 4) rfl
            have y5 := HBL.out.cell (i := 5) rfl
            have y6 := HBL.out.cell (i := 6) rfl
            have y7 := HBL.out.cell (i := 7) rfl
            have y8 := HBL.out.cell (i := 8) rfl
            have y9 := HBL.out.cell (i := 9) rfl
            have y10 := HBL.out.cell (i := 10) rfl
            clear hst
            go_wp2
            refine bodyPost_ret (v := .tuple #[.agg #[.int .i64 0, .int .i64 0, .int .i64 0, .int .i64 0, .int .u64 0, .int .i64 0, .int .i64 0, .int .i64 0, .bool false, .string ⟨#[]⟩, .slice none 0 0], .int .i64 (ea : Int)]) (by simp [results, Try.results48, go_sem, y0, y1, y2, y3, y4, y5, y6, y7, y8, y9, y10]; try rfl) rfl ?_
            exact ⟨none, 0, by rw [HRES.out]; rfl, HGF.out, Lib.hid (by rw [HRES.out]; exact ⟨w.heap.size, World.ownsRow_nil _ _ _ _⟩)⟩
        · have hk5 : ¬ (k : Int) < (cnt : Int) := by omega
          have hkc : k = cnt := by omega
          by_cases hea : ea = 0
          · subst hea
            by_cases hz : 0 < ra.size
            · have t1 := isEmpty_of hz
              have HRES := Lib.hid (show P = (4, Mg.zero) from by rw [HAK.out (.inl hkc), if_neg (by omega), if_pos hz])
              clear HAK HAT hE hsl hLL hz hkc
              have o0 := HPB.out.cell (i := 0) rfl
              have o1 := HPB.out.cell (i := 1) rfl
              have d1 := HC.out.free 1
              go_upto_region 32 with fail
              clear c0 c1 d1 o0 o1
              replace HC := Lib.hid (HC.out.set 1 (.int .i64 4))
              replace HC := Lib.hid (show Blk _ _ #[.string _, .int .i64 4] _ from HC.out)
              replace HQ := Lib.hid (HQ.out.other hqc 1 (.int .i64 4))
              replace HG := Lib.hid (HG.out.setCell (p := ⟨pc, 1, none⟩) HWC.out (.int .i64 4))
              generalize wr.setCell ⟨pc, 1, none⟩ (.int .i64 4) = wz at *
              have c1 := HC.out.cell (i := 1) rfl
              go_wp2
              obtain ⟨ms, hms, hmsl, hst, hgr, hBl⟩ := blk_store (P := Try.prog) (HQ.out.gr (Gr.refl wz).drew) [.int .i64 0, .int .i64 0, .int .i64 0, .int .i64 0, .int .u64 0, .int .i64 0, .int .i64 0, .int .i64 0, .bool false, .string ⟨#[]⟩, .slice none 0 0] rfl (eleven_one _ _ _ _ _ _ _ _ _ _ _ _ _)
              have HGF := Lib.hid (gr_put (HG.out.trans (Gr.refl wz).drew) hgr HWQ.out)
              have HC9 := Lib.hid ((HC.out.gr (Gr.refl wz).drew).put_other hgr (Ne.symm hqc))
              have HMS := Lib.hid hms
              have HBL := Lib.hid hBl
              have hl11 : ms.length = 11 := hmsl
              clear hms hmsl hgr hBl HQ HG
              have c1 := HC.out.cell (i := 1) rfl
              refine wp_region_held_drew (S := (fun w9 => w9.cell? ⟨pc, 1, none⟩ = some (.int .i64 4))) (by kernel_rfl) ?invy (fun h0 => ?_)
              case invy => ((try dsimp only); (exact c1))
              refine wpAnyH_take (i := 0) (oi := { dst := some 153, op := Go.Op.build 81 #[], type := 81, pos := "ref.go:113", after := #[], guard := none }) (v := (.agg ms.toArray)) rfl (by kernel_rfl) (by kernel_rfl) (by kernel_rfl) (fun _ _ _ h => h) (Or.inl ⟨by rfl, ?ry1⟩) (by assumption) ?_
              case ry1 => (intro w hSw; (try dsimp only at hSw); go_simp; all_goals (rw [← HMS.out]))
              try simp only [Act.put, List.setIfInBounds_toArray, List.set_cons_zero, List.set_cons_succ]
              refine wpAnyH_take (i := 1) (oi := { dst := some 154, op := Go.Op.fieldAddr 181 (Go.Operand.tmp 7) 1, type := 0, pos := "ref.go:113", after := #[{ on := 3, ground := Go.Ground.gcOnly Go.Departure.lateStores }], guard := none }) (v := ?vy2) rfl (by kernel_rfl) (by kernel_rfl) (by kernel_rfl) (fun _ _ _ h => h) (Or.inl ⟨by rfl, ?ry2⟩) (by assumption) ?_
              case ry2 => (intro w hSw; (try dsimp only at hSw); (go_simp <;> with_reducible rfl))
              try simp only [Act.put, List.setIfInBounds_toArray, List.set_cons_zero, List.set_cons_succ]
              refine wpAnyH_take (i := 2) (oi := { dst := some 155, op := Go.Op.load 3 (Go.Operand.tmp 154), type := 3, pos := "ref.go:113", after := #[{ on := 1, ground := Go.Ground.data }, { on := 3, ground := Go.Ground.gcOnly Go.Departure.lateStores }], guard := none }) (v := ?vy3) rfl (by kernel_rfl) (by kernel_rfl) (by kernel_rfl) (fun _ _ _ h => h) (Or.inl ⟨by rfl, ?ry3⟩) (by assumption) ?_
              case ry3 => (intro w hSw; (try dsimp only at hSw); (go_simp <;> with_reducible rfl))
              try simp only [Act.put, List.setIfInBounds_toArray, List.set_cons_zero, List.set_cons_succ]
              refine wpAnyH_ready (rs := [3]) (by kernel_rfl) (by simp) ?_
              refine AllReadyH.cons (o := { dst := none, op := Go.Op.store 81 (Go.Operand.tmp 2) (Go.Operand.tmp 153), type := 0, pos := "ref.go:113", after := #[{ on := 0, ground := Go.Ground.data }, { on := 0, ground := Go.Ground.phase }, { on := 1, ground := Go.Ground.textOnly Go.Departure.lateStores }, { on := 2, ground := Go.Ground.textOnly Go.Departure.lateStores }], guard := none }) rfl (fun K hK => ?_) AllReadyH.nil
              go_simp
              skip
              first | refine hK.out _ _ ?sy4 (fun h4 => ?_) | (go_wp2_with fail; refine hK.out _ _ ?sy4 (fun h4 => ?_))
              case sy4 => ((try dsimp only); (exact HC9.out.cell (i := 1) rfl))
              clear hK K h0
              try simp only [Act.put, List.setIfInBounds_toArray, List.set_cons_zero, List.set_cons_succ]
              refine wpAnyH_take (i := 4) (oi := { dst := some 3, op := Go.Op.assign (Go.Operand.tmp 155), type := 3, pos := "ref.go:113", after := #[{ on := 2, ground := Go.Ground.data }, { on := 3, ground := Go.Ground.chain }, { on := 0, ground := Go.Ground.phase }, { on := 1, ground := Go.Ground.phase }, { on := 2, ground := Go.Ground.phase }, { on := 3, ground := Go.Ground.phase }], guard := none }) (v := ?vy5) rfl (by kernel_rfl) (by kernel_rfl) (by kernel_rfl) (fun _ _ _ h => h) (Or.inl ⟨by rfl, ?ry5⟩) (by assumption) ?_
              case ry5 => (intro w hSw; (try dsimp only at hSw); (go_simp <;> with_reducible rfl))
              try simp only [Act.put, List.setIfInBounds_toArray, List.set_cons_zero, List.set_cons_succ]
              refine wpAnyH_done (by kernel_rfl) ?_ _
              clear c1
              have y0 := HBL.out.cell (i := 0) rfl
              have y1 := HBL.out.cell (i := 1) rfl
              have y2 := HBL.out.cell (i := 2) rfl
              have y3 := HBL.out.cell (i := 3) rfl
              have y4 := HBL.out.cell (i := 4) rfl
              have y5 := HBL.out.cell (i := 5) rfl
              have y6 := HBL.out.cell (i := 6) rfl
              have y7 := HBL.out.cell (i := 7) rfl
              have y8 := HBL.out.cell (i := 8) rfl
              have y9 := HBL.out.cell (i := 9) rfl
              have y10 := HBL.out.cell (i := 10) rfl
              clear hst
              go_wp2
              refine bodyPost_ret (v := .tuple #[.agg #[.int .i64 0, .int .i64 0, .int .i64 0, .int .i64 0, .int .u64 0, .int .i64 0, .int .i64 0, .int .i64 0, .bool false, .string ⟨#[]⟩, .slice none 0 0], .int .i64 4]) (by simp [results, Try.results48, go_sem, y0, y1, y2, y3, y4, y5, y6, y7, y8, y9, y10]; try rfl) rfl ?_
              exact ⟨none, 0, by rw [HRES.out]; rfl, HGF.out, Lib.hid (by rw [HRES.out]; exact ⟨w.heap.size, World.ownsRow_nil _ _ _ _⟩)⟩
            · obtain rfl : ra = ⟨#[]⟩ := by
                have : ra.size = 0 := by omega
                exact eB (List.eq_nil_of_length_eq_zero (by rw [lenB]; exact this))
              have hps2 := hk.2.2
              by_cases hz2 : p.size + 8 < s.size
              · have t2 : ((p.size : Int) + 8 != (s.size : Int)) = true := by simp; omega
                have HRES := Lib.hid (show P = (4, Mg.zero) from by rw [HAK.out (.inl hkc), if_neg (by omega), if_neg hz, if_pos hz2])
                clear HAK HAT hE hsl hLL hz hkc
                have o0 := HPB.out.cell (i := 0) rfl
                have o1 := HPB.out.cell (i := 1) rfl
                have d1 := HC.out.free 1
                go_upto_region 32 with fail
                clear c0 c1 d1 o0 o1
                replace HC := Lib.hid (HC.out.set 1 (.int .i64 4))
                replace HC := Lib.hid (show Blk _ _ #[.string _, .int .i64 4] _ from HC.out)
                replace HQ := Lib.hid (HQ.out.other hqc 1 (.int .i64 4))
                replace HG := Lib.hid (HG.out.setCell (p := ⟨pc, 1, none⟩) HWC.out (.int .i64 4))
                generalize wr.setCell ⟨pc, 1, none⟩ (.int .i64 4) = wz at *
                have c1 := HC.out.cell (i := 1) rfl
                go_wp2
                obtain ⟨ms, hms, hmsl, hst, hgr, hBl⟩ := blk_store (P := Try.prog) (HQ.out.gr (Gr.refl wz).drew) [.int .i64 0, .int .i64 0, .int .i64 0, .int .i64 0, .int .u64 0, .int .i64 0, .int .i64 0, .int .i64 0, .bool false, .string ⟨#[]⟩, .slice none 0 0] rfl (eleven_one _ _ _ _ _ _ _ _ _ _ _ _ _)
                have HGF := Lib.hid (gr_put (HG.out.trans (Gr.refl wz).drew) hgr HWQ.out)
                have HC9 := Lib.hid ((HC.out.gr (Gr.refl wz).drew).put_other hgr (Ne.symm hqc))
                have HMS := Lib.hid hms
                have HBL := Lib.hid hBl
                have hl11 : ms.length = 11 := hmsl
                clear hms hmsl hgr hBl HQ HG
                have c1 := HC.out.cell (i := 1) rfl
                refine wp_region_held_drew (S := (fun w9 => w9.cell? ⟨pc, 1, none⟩ = some (.int .i64 4))) (by kernel_rfl) ?invz (fun h0 => ?_)
                case invz => ((try dsimp only); (exact c1))
                refine wpAnyH_take (i := 0) (oi := { dst := some 153, op := Go.Op.build 81 #[], type := 81, pos := "ref.go:113", after := #[], guard := none }) (v := (.agg ms.toArray)) rfl (by kernel_rfl) (by kernel_rfl) (by kernel_rfl) (fun _ _ _ h => h) (Or.inl ⟨by rfl, ?rz1⟩) (by assumption) ?_
                case rz1 => (intro w hSw; (try dsimp only at hSw); go_simp; all_goals (rw [← HMS.out]))
                try simp only [Act.put, List.setIfInBounds_toArray, List.set_cons_zero, List.set_cons_succ]
                refine wpAnyH_take (i := 1) (oi := { dst := some 154, op := Go.Op.fieldAddr 181 (Go.Operand.tmp 7) 1, type := 0, pos := "ref.go:113", after := #[{ on := 3, ground := Go.Ground.gcOnly Go.Departure.lateStores }], guard := none }) (v := ?vz2) rfl (by kernel_rfl) (by kernel_rfl) (by kernel_rfl) (fun _ _ _ h => h) (Or.inl ⟨by rfl, ?rz2⟩) (by assumption) ?_
                case rz2 => (intro w hSw; (try dsimp only at hSw); (go_simp <;> with_reducible rfl))
                try simp only [Act.put, List.setIfInBounds_toArray, List.set_cons_zero, List.set_cons_succ]
                refine wpAnyH_take (i := 2) (oi := { dst := some 155, op := Go.Op.load 3 (Go.Operand.tmp 154), type := 3, pos := "ref.go:113", after := #[{ on := 1, ground := Go.Ground.data }, { on := 3, ground := Go.Ground.gcOnly Go.Departure.lateStores }], guard := none }) (v := ?vz3) rfl (by kernel_rfl) (by kernel_rfl) (by kernel_rfl) (fun _ _ _ h => h) (Or.inl ⟨by rfl, ?rz3⟩) (by assumption) ?_
                case rz3 => (intro w hSw; (try dsimp only at hSw); (go_simp <;> with_reducible rfl))
                try simp only [Act.put, List.setIfInBounds_toArray, List.set_cons_zero, List.set_cons_succ]
                refine wpAnyH_ready (rs := [3]) (by kernel_rfl) (by simp) ?_
                refine AllReadyH.cons (o := { dst := none, op := Go.Op.store 81 (Go.Operand.tmp 2) (Go.Operand.tmp 153), type := 0, pos := "ref.go:113", after := #[{ on := 0, ground := Go.Ground.data }, { on := 0, ground := Go.Ground.phase }, { on := 1, ground := Go.Ground.textOnly Go.Departure.lateStores }, { on := 2, ground := Go.Ground.textOnly Go.Departure.lateStores }], guard := none }) rfl (fun K hK => ?_) AllReadyH.nil
                go_simp
                skip
                first | refine hK.out _ _ ?sz4 (fun h4 => ?_) | (go_wp2_with fail; refine hK.out _ _ ?sz4 (fun h4 => ?_))
                case sz4 => ((try dsimp only); (exact HC9.out.cell (i := 1) rfl))
                clear hK K h0
                try simp only [Act.put, List.setIfInBounds_toArray, List.set_cons_zero, List.set_cons_succ]
                refine wpAnyH_take (i := 4) (oi := { dst := some 3, op := Go.Op.assign (Go.Operand.tmp 155), type := 3, pos := "ref.go:113", after := #[{ on := 2, ground := Go.Ground.data }, { on := 3, ground := Go.Ground.chain }, { on := 0, ground := Go.Ground.phase }, { on := 1, ground := Go.Ground.phase }, { on := 2, ground := Go.Ground.phase }, { on := 3, ground := Go.Ground.phase }], guard := none }) (v := ?vz5) rfl (by kernel_rfl) (by kernel_rfl) (by kernel_rfl) (fun _ _ _ h => h) (Or.inl ⟨by rfl, ?rz5⟩) (by assumption) ?_
                case rz5 => (intro w hSw; (try dsimp only at hSw); (go_simp <;> with_reducible rfl))
                try simp only [Act.put, List.setIfInBounds_toArray, List.set_cons_zero, List.set_cons_succ]
                refine wpAnyH_done (by kernel_rfl) ?_ _
                clear c1
                have y0 := HBL.out.cell (i := 0) rfl
                have y1 := HBL.out.cell (i := 1) rfl
                have y2 := HBL.out.cell (i := 2) rfl
                have y3 := HBL.out.cell (i := 3) rfl
                have y4 := HBL.out.cell (i := 4) rfl
                have y5 := HBL.out.cell (i := 5) rfl
                have y6 := HBL.out.cell (i := 6) rfl
                have y7 := HBL.out.cell (i := 7) rfl
                have y8 := HBL.out.cell (i := 8) rfl
                have y9 := HBL.out.cell (i := 9) rfl
                have y10 := HBL.out.cell (i := 10) rfl
                clear hst
                go_wp2
                refine bodyPost_ret (v := .tuple #[.agg #[.int .i64 0, .int .i64 0, .int .i64 0, .int .i64 0, .int .u64 0, .int .i64 0, .int .i64 0, .int .i64 0, .bool false, .string ⟨#[]⟩, .slice none 0 0], .int .i64 4]) (by simp [results, Try.results48, go_sem, y0, y1, y2, y3, y4, y5, y6, y7, y8, y9, y10]; try rfl) rfl ?_
                exact ⟨none, 0, by rw [HRES.out]; rfl, HGF.out, Lib.hid (by rw [HRES.out]; exact ⟨w.heap.size, World.ownsRow_nil _ _ _ _⟩)⟩
              · have t2 : ((p.size : Int) + 8 != (s.size : Int)) = false := by simp; omega
                have HRES := Lib.hid (show P = (0, mgOf kd ⟨r9, e9, frm, tt, sub, c, n, slot, time, ok, text, cnt⟩ L) from by rw [HAK.out (.inl hkc), if_neg (by omega), if_neg hz, if_neg hz2])
                clear HAK HAT hE hsl hz hkc
                have o0 := HPB.out.cell (i := 0) rfl
                have o1 := HPB.out.cell (i := 1) rfl
                go_upto_region 34 with fail
                clear c0 c1 o0 o1 t2
                have m0 := HM.out.cell (i := 0) rfl
                have m1 := HM.out.cell (i := 1) rfl
                have m2 := HM.out.cell (i := 2) rfl
                have m3 := HM.out.cell (i := 3) rfl
                have m4 := HM.out.cell (i := 4) rfl
                have m5 := HM.out.cell (i := 5) rfl
                have m6 := HM.out.cell (i := 6) rfl
                have m7 := HM.out.cell (i := 7) rfl
                have m8 := HM.out.cell (i := 8) rfl
                have m9 := HM.out.cell (i := 9) rfl
                have m10 := HM.out.cell (i := 10) rfl
                obtain ⟨ms, hms, hmsl, hT, hO, hgr, hBl⟩ := blk_put HQ.out #[.int .i64 (kd : Int), .int .i64 (frm : Int), .int .i64 (tt : Int), .int .i64 (sub : Int), .int .u64 (c : Int), .int .i64 (n : Int), .int .i64 (slot : Int), .int .i64 (time : Int), .bool ok, .string text, .slice ua k uc] rfl (eleven_one _ _ _ _ _ _ _ _ _ _ _ _ _)
                have HGF := Lib.hid (gr_put HG.out hgr HWQ.out)
                have HSF := Lib.hid (HS.out.kept hgr (.inr (row_off HQ.out HS.out (by decide))))
                have HMS := Lib.hid hms
                have HML := Lib.hid hmsl
                have HTT := Lib.hid hT
                have HO2 := Lib.hid hO
                have y0 := hBl.cell (i := 0) rfl
                have y1 := hBl.cell (i := 1) rfl
                have y2 := hBl.cell (i := 2) rfl
                have y3 := hBl.cell (i := 3) rfl
                have y4 := hBl.cell (i := 4) rfl
                have y5 := hBl.cell (i := 5) rfl
                have y6 := hBl.cell (i := 6) rfl
                have y7 := hBl.cell (i := 7) rfl
                have y8 := hBl.cell (i := 8) rfl
                have y9 := hBl.cell (i := 9) rfl
                have y10 := hBl.cell (i := 10) rfl
                clear hms hmsl hT hO hgr hBl HQ HG HM HS
                go_wp2_with (first | (refine wpList_store_mid rfl 81 (.tmp 2) (.tmp 156) (by rfl) w.heap.size 0 ms.toArray (by rfl) (by exact HMS.out) HTT.out (by rw [HML.out]; kernel_rfl) HO2.out ?_))
                refine bodyPost_ret (v := .tuple #[.agg #[.int .i64 (kd : Int), .int .i64 (frm : Int), .int .i64 (tt : Int), .int .i64 (sub : Int), .int .u64 (c : Int), .int .i64 (n : Int), .int .i64 (slot : Int), .int .i64 (time : Int), .bool ok, .string text, .slice ua k uc], .int .i64 0]) (by simp [results, Try.results48, go_sem, y0, y1, y2, y3, y4, y5, y6, y7, y8, y9, y10]; try rfl) rfl ?_
                subst hLL
                exact ⟨ua, uc, by rw [HRES.out]; rfl, HGF.out, Lib.hid (by rw [HRES.out]; exact ⟨_, HSF.out⟩)⟩
          · have he4 : ((ea : Int) == 0) = false := by simp; omega
            have he5 : ((ea : Int) != 0) = true := by simp; omega
            have HRES := Lib.hid (show P = (ea, Mg.zero) from by rw [HAK.out (.inl hkc), if_pos hea])
            clear HAK HAT hE hsl hLL hea
            go_wp2
            obtain ⟨ms, hms, hmsl, hst, hgr, hBl⟩ := blk_store (P := Try.prog) (HQ.out.gr (Gr.refl wr).drew) [.int .i64 0, .int .i64 0, .int .i64 0, .int .i64 0, .int .u64 0, .int .i64 0, .int .i64 0, .int .i64 0, .bool false, .string ⟨#[]⟩, .slice none 0 0] rfl (eleven_one _ _ _ _ _ _ _ _ _ _ _ _ _)
            have HGF := Lib.hid (gr_put (HG.out.trans (Gr.refl wr).drew) hgr HWQ.out)
            have HC9 := Lib.hid ((HC.out.gr (Gr.refl wr).drew).put_other hgr (Ne.symm hqc))
            have HMS := Lib.hid hms
            have HBL := Lib.hid hBl
            have hl11 : ms.length = 11 := hmsl
            clear hms hmsl hgr hBl HQ HG
            have c1 := HC.out.cell (i := 1) rfl
            refine wp_region_held_drew (S := (fun w9 => w9.cell? ⟨pc, 1, none⟩ = some (.int .i64 (ea : Int)))) (by kernel_rfl) ?invx (fun h0 => ?_)
            case invx => ((try dsimp only); (exact c1))
            refine wpAnyH_take (i := 0) (oi := { dst := some 153, op := Go.Op.build 81 #[], type := 81, pos := "ref.go:113", after := #[], guard := none }) (v := (.agg ms.toArray)) rfl (by kernel_rfl) (by kernel_rfl) (by kernel_rfl) (fun _ _ _ h => h) (Or.inl ⟨by rfl, ?rx1⟩) (by assumption) ?_
            case rx1 => (intro w hSw; (try dsimp only at hSw); go_simp; all_goals (rw [← HMS.out]))
            try simp only [Act.put, List.setIfInBounds_toArray, List.set_cons_zero, List.set_cons_succ]
            refine wpAnyH_take (i := 1) (oi := { dst := some 154, op := Go.Op.fieldAddr 181 (Go.Operand.tmp 7) 1, type := 0, pos := "ref.go:113", after := #[{ on := 3, ground := Go.Ground.gcOnly Go.Departure.lateStores }], guard := none }) (v := ?vx2) rfl (by kernel_rfl) (by kernel_rfl) (by kernel_rfl) (fun _ _ _ h => h) (Or.inl ⟨by rfl, ?rx2⟩) (by assumption) ?_
            case rx2 => (intro w hSw; (try dsimp only at hSw); (go_simp <;> with_reducible rfl))
            try simp only [Act.put, List.setIfInBounds_toArray, List.set_cons_zero, List.set_cons_succ]
            refine wpAnyH_take (i := 2) (oi := { dst := some 155, op := Go.Op.load 3 (Go.Operand.tmp 154), type := 3, pos := "ref.go:113", after := #[{ on := 1, ground := Go.Ground.data }, { on := 3, ground := Go.Ground.gcOnly Go.Departure.lateStores }], guard := none }) (v := ?vx3) rfl (by kernel_rfl) (by kernel_rfl) (by kernel_rfl) (fun _ _ _ h => h) (Or.inl ⟨by rfl, ?rx3⟩) (by assumption) ?_
            case rx3 => (intro w hSw; (try dsimp only at hSw); (go_simp <;> with_reducible rfl))
            try simp only [Act.put, List.setIfInBounds_toArray, List.set_cons_zero, List.set_cons_succ]
            refine wpAnyH_ready (rs := [3]) (by kernel_rfl) (by simp) ?_
            refine AllReadyH.cons (o := { dst := none, op := Go.Op.store 81 (Go.Operand.tmp 2) (Go.Operand.tmp 153), type := 0, pos := "ref.go:113", after := #[{ on := 0, ground := Go.Ground.data }, { on := 0, ground := Go.Ground.phase }, { on := 1, ground := Go.Ground.textOnly Go.Departure.lateStores }, { on := 2, ground := Go.Ground.textOnly Go.Departure.lateStores }], guard := none }) rfl (fun K hK => ?_) AllReadyH.nil
            go_simp
            skip
            first | refine hK.out _ _ ?sx4 (fun h4 => ?_) | (go_wp2_with fail; refine hK.out _ _ ?sx4 (fun h4 => ?_))
            case sx4 => ((try dsimp only); (exact HC9.out.cell (i := 1) rfl))
            clear hK K h0
            try simp only [Act.put, List.setIfInBounds_toArray, List.set_cons_zero, List.set_cons_succ]
            refine wpAnyH_take (i := 4) (oi := { dst := some 3, op := Go.Op.assign (Go.Operand.tmp 155), type := 3, pos := "ref.go:113", after := #[{ on := 2, ground := Go.Ground.data }, { on := 3, ground := Go.Ground.chain }, { on := 0, ground := Go.Ground.phase }, { on := 1, ground := Go.Ground.phase }, { on := 2, ground := Go.Ground.phase }, { on := 3, ground := Go.Ground.phase }], guard := none }) (v := ?vx5) rfl (by kernel_rfl) (by kernel_rfl) (by kernel_rfl) (fun _ _ _ h => h) (Or.inl ⟨by rfl, ?rx5⟩) (by assumption) ?_
            case rx5 => (intro w hSw; (try dsimp only at hSw); (go_simp <;> with_reducible rfl))
            try simp only [Act.put, List.setIfInBounds_toArray, List.set_cons_zero, List.set_cons_succ]
            refine wpAnyH_done (by kernel_rfl) ?_ _
            clear c1
            have y0 := HBL.out.cell (i := 0) rfl
            have y1 := HBL.out.cell (i := 1) rfl
            have y2 := HBL.out.cell (i := 2) rfl
            have y3 := HBL.out.cell (i := 3) rfl
            have y4 := HBL.out.cell (i := 4) rfl
            have y5 := HBL.out.cell (i := 5) rfl
            have y6 := HBL.out.cell (i := 6) rfl
            have y7 := HBL.out.cell (i := 7) rfl
            have y8 := HBL.out.cell (i := 8) rfl
            have y9 := HBL.out.cell (i := 9) rfl
            have y10 := HBL.out.cell (i := 10) rfl
            clear hst
            go_wp2
            refine bodyPost_ret (v := .tuple #[.agg #[.int .i64 0, .int .i64 0, .int .i64 0, .int .i64 0, .int .u64 0, .int .i64 0, .int .i64 0, .int .i64 0, .bool false, .string ⟨#[]⟩, .slice none 0 0], .int .i64 (ea : Int)]) (by simp [results, Try.results48, go_sem, y0, y1, y2, y3, y4, y5, y6, y7, y8, y9, y10]; try rfl) rfl ?_
            exact ⟨none, 0, by rw [HRES.out]; rfl, HGF.out, Lib.hid (by rw [HRES.out]; exact ⟨w.heap.size, World.ownsRow_nil _ _ _ _⟩)⟩
end Go.Proofs.Ytihhfdkcggnjpaa
