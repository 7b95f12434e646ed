import Derived.Test.YtfgkgpkaohkehaaGreatDoorK8
import Derived.Test.YtfgkgpkaohkehaaGreatDoorK27
import Derived.Test.YtfgkgpkaohkehaaGreatDoorC49
import Derived.WalkKit
import Derived.ProofKit
import Derived.LoopTactic
import Derived.Outline
import Derived.WalkSpells
import Derived.WalkLawsBesides
import Derived.Lib.Hide
import Derived.Deep.LoopGhost
import Derived.Deep.QuietTactic
import Derived.BigQuiet
import Derived.ShutString
import Derived.IntWalk
namespace Go.Proofs.YtfgkgpkaohkehaaGreatDoor
open Go.ChangeShapes Go.WideShapes Go.ChangeAt Go.RowKit
open Grids
set_option linter.unusedVariables false
set_option linter.unusedSimpArgs false
theorem kz49 {r p W z1 n1 z2 n2 : Nat} (R : Rgt r p W z1 n1 z2 n2) (f : Bool) (s : Nat) : (((least r p (kz f z1 z2) (kz f n1 n2) s : Nat) : Int) == 0) = isQ r p (kz f z1 z2) (kz f n1 n2) s := by
  obtain ⟨h1, h2, h3, h4⟩ := kz_in R f
  have hr := R.shp.hr
  have hp := R.shp.hp
  have := @least_zero r p (kz f z1 z2) (kz f n1 n2) s (by omega) h2 (by omega)
  cases hq : isQ r p (kz f z1 z2) (kz f n1 n2) s
  · rw [beq_eq_false_iff_ne]
    intro e
    have h5 := this.1 (by omega)
    rw [hq] at h5; cases h5
  · have h5 := this.2 hq
    rw [h5]; rfl
theorem add49 {r p W z1 n1 z2 n2 : Nat} (R : Rgt r p W z1 n1 z2 n2) (f : Bool) (s : Nat) (n : Int) (hs : s < 2 ^ (r * p)) :
    (freshB r p s n = true ∧ addS r p s n ≠ s ∧ addS r p s n < 2 ^ (r * p) ∧ least r p (kz f z1 z2) (kz f n1 n2) (addS r p s n) ≤ least r p (kz f z1 z2) (kz f n1 n2) s ∧ least r p (kz f z1 z2) (kz f n1 n2) s ≤ least r p (kz f z1 z2) (kz f n1 n2) (addS r p s n) + 1) ∨ (freshB r p s n = false ∧ addS r p s n = s) := by
  obtain ⟨h1, h2, h3, h4⟩ := kz_in R f
  have hr := R.shp.hr
  have hp := R.shp.hp
  cases hf : freshB r p s n
  · exact .inr ⟨rfl, by unfold addS; rw [hf]; rfl⟩
  · left
    have ha : addS r p s n = s ||| 2 ^ n.toNat := by unfold addS; rw [hf]; rfl
    unfold freshB at hf
    rw [Bool.and_eq_true, decide_eq_true_eq, Bool.not_eq_true'] at hf
    obtain ⟨⟨hn0, hn⟩, hb⟩ := hf
    have hm : n.toNat < r * p := by omega
    rw [ha]
    refine ⟨rfl, ?_, Nat.or_lt_two_pow hs (Nat.pow_lt_pow_right (by decide) hm), ?_, ?_⟩
    · intro e
      have := congrArg (fun x => x.testBit n.toNat) e
      simp [hb] at this
    · exact least_mono (by omega) h2 (by omega) (fun i h => by simp [h])
    · exact least_step (by omega) h2 (by omega) (by omega)
set_option maxRecDepth 100000 in
set_option maxHeartbeats 8000000 in
theorem counts_walk (R0 P0 : Int) (W0 : Nat) (a1 a2 a3 a4 : Int) (f : Bool) (l : List AM) (a : Option Addr) (cap : Nat) (w : World) (hW : W0 < 4294967296) (hl : AMRow w a l) (hT : TB w) :
    Calls Tryz.prog 3 #[.agg #[.int .i64 R0, .int .i64 P0, .int .u32 W0, .int .i64 a1, .int .i64 a2, .int .i64 a3, .int .i64 a4], .bool f, .slice a l.length cap] w fun e w' => e = .returned (.bool true) ∧ Gr w w' := by
  have RI := Lib.hid (fun w => right_any R0 P0 a1 a2 a3 a4 W0 w hW)
  have HL := Lib.hid hl
  have HT := Lib.hid hT
  have HLN := Lib.hid hl.1
  clear hW hl hT
  go_enter Tryz.func3, Tryz.ntmps3
  go_wp2_with fail
  have HG0 := Lib.hid ((Gr.refl w).alloc (.cells #[.int .i64 R0, .int .i64 P0, .int .u32 W0, .int .i64 a1, .int .i64 a2, .int .i64 a3, .int .i64 a4] 26))
  generalize w.alloc (.cells #[.int .i64 R0, .int .i64 P0, .int .u32 W0, .int .i64 a1, .int .i64 a2, .int .i64 a3, .int .i64 a4] 26) = w0 at *
  refine (RI.out _).mono ?_
  rintro e w2 ⟨r, p, W, z1, n1, z2, n2, R, rfl, hg⟩
  replace HG0 := Lib.hid (HG0.out.trans hg)
  have HR := Lib.hid R
  clear hg R RI
  go_wp2_with fail
  refine (own_nat r p W z1 n1 z2 n2 _).mono ?_
  rintro e w3 ⟨rfl, hg⟩
  have HG1 := Lib.hid ((HG0.out.trans hg).alloc (.cells #[.int .i64 (r : Nat), .int .i64 (p : Nat), .int .u32 (W : Nat), .int .i64 (z1 : Nat), .int .i64 (n1 : Nat), .int .i64 (z2 : Nat), .int .i64 (n2 : Nat)] 30))
  have HX := Lib.hid (Blk.new w3 #[.int .i64 (r : Nat), .int .i64 (p : Nat), .int .u32 (W : Nat), .int .i64 (z1 : Nat), .int .i64 (n1 : Nat), .int .i64 (z2 : Nat), .int .i64 (n2 : Nat)] 30)
  clear hg HG0
  go_upto_region 2 with fail
  generalize w3.alloc (.cells #[.int .i64 (r : Nat), .int .i64 (p : Nat), .int .u32 (W : Nat), .int .i64 (z1 : Nat), .int .i64 (n1 : Nat), .int .i64 (z2 : Nat), .int .i64 (n2 : Nat)] 30) = w4 at *
  generalize w3.heap.size = xb at *
  have HG4 := HG1
  have HL16 := Lib.hid (fun (z n s : Nat) (hz : z ≤ r) (hn : n ≤ 4) => @least_le r p z n s (by have := HR.out.shp.hr; omega) hz hn)
  have HFW := Lib.hid (fun (m : Mg) (h : m.Sm) => h.w0)
  cases f
  · have HL16 := Lib.hid (fun s => HL16.out (kz false z1 z2) (kz false n1 n2) s (kz_in HR.out false).2.1 (by have := (kz_in HR.out false).2.2.2; have := HR.out.shp.hp; omega))
    have x0 := HX.out.cell (i := 0) rfl
    have x1 := HX.out.cell (i := 1) rfl
    have x2 := HX.out.cell (i := 2) rfl
    have x3 := HX.out.cell (i := 3) rfl
    have x4 := HX.out.cell (i := 4) rfl
    have x5 := HX.out.cell (i := 5) rfl
    have x6 := HX.out.cell (i := 6) rfl
    go_wp2_with fail
    refine (vSecond_any r p W z1 n1 z2 n2 _).mono ?_
    rintro e w5 ⟨b, rfl, hb, hV, hg⟩
    replace HG1 := Lib.hid (HG1.out.trans hg)
    replace HX := Lib.hid (HX.out.gr hg)
    have HBW := Lib.hid (Nat.le_trans (HG4.out.size) hb)
    have HV := Lib.hid hV
    clear hg hb hV HX x0 x1 x2 x3 x4 x5 x6
    have KL := Lib.hid (fun s => kz49 HR.out false s)
    have AD := Lib.hid (fun s n hs => add49 HR.out false s n hs)
    have LE := Lib.hid (fun s k wq hs hl h hT => @vLeast_to b r p W z1 n1 z2 n2 s k false HR.out hs hl wq h hT)
    have h9 := shp12 HR.out.shp
    have H9 := Lib.hid h9
    have HP0 := Lib.hid (Nat.two_pow_pos (r * p))
    have L0 := Lib.hid (LE.out 0 _ w5 HP0.out rfl HV.out (HT.out.gr HG1.out))
    clear h9
    go_wp2_with fail
    refine L0.out.mono ?_
    rintro e w7 ⟨rfl, hg⟩
    have HGL := Lib.hid (HG1.out.trans hg)
    have HVL := Lib.hid (HV.out.gr hg)
    clear hg L0 HG1 HV
    go_wp2_with fail
    go_loopw [9, 10] (fun v i wr => ∃ (k u : Nat), k ≤ l.length ∧ i = .int .i64 (k : Nat) ∧ v = .int .i64 (least r p (kz false z1 z2) (kz false n1 n2) u : Nat) ∧ Hid (u < 2 ^ (r * p)) ∧ Hid (VtIs wr b r p W z1 n1 z2 n2 false u) ∧ Hid (Gr w wr)) (fun _ i _ => l.length - (intOf i).toNat)
    case atStart => exact ⟨0, 0, by omega, rfl, rfl, HP0, HVL, HGL⟩
    case round =>
      obtain ⟨k, s, hk, rfl, rfl, HS, HV0, HG0⟩ := hrel
      by_cases hlt : k < l.length
      · by_cases h20 : k < 20
        · obtain ⟨bl, ol, rfl, hblt, ⟨c0, c1, c2, c3, c4, c5, c6, c7, c8, c9, c10⟩, hok⟩ := (HL.out.gr HG0.out).at k hlt
          generalize l[k] = q at *
          obtain ⟨⟨q0, q1, q2, q3, q4, q5, q6, q7, q8, qt, qL⟩, qa, qc⟩ := q
          obtain ⟨hq1, hq2, hq3⟩ := hok
          dsimp only at c0 c1 c2 c3 c4 c5 c6 c7 c8 c9 c10 hq1 hq2 hq3
          have RM := Lib.hid (right10_any q0 q1 q2 q3 q4 q5 q6 q7 q8 qt qL wr hq1 hq2 hq3)
          clear hq1 hq2 hq3
          go_wp2_with fail
          refine RM.out.mono ?_
          rintro e v1 ⟨m, ms, la, qa2, rfl, HM1, HK, HRA, hg⟩
          obtain rfl := HM1.out
          replace HG0 := Lib.hid (HG0.out.trans hg)
          replace HV0 := Lib.hid (HV0.out.gr hg)
          clear hg RM HM1 c0 c1 c2 c3 c4 c5 c6 c7 c8 c9 c10
          have hl1 : m.L.length ≤ 1000 := by have := HK.out.1.len; omega
          have OW := Lib.hid (own_mg (a := la) (q := qa2) m hl1 v1 HRA.out)
          go_wp2_with fail
          refine OW.out.mono ?_
          rintro e v2 ⟨oa, oq, rfl, HOR, hg⟩
          replace HG0 := Lib.hid (HG0.out.trans hg)
          replace HV0 := Lib.hid (HV0.out.gr hg)
          clear hg OW HRA hl1
          have BX := Lib.hid (bytesX_mg (a := oa) (q := oq) m HK.out.1 v2 HOR.out)
          go_wp2_with fail
          refine BX.out.mono ?_
          rintro e v3 ⟨rfl, hg⟩
          replace HG0 := Lib.hid (HG0.out.trans hg)
          replace HV0 := Lib.hid (HV0.out.gr hg)
          clear hg BX HOR
          have PB := Lib.hid (parse_back HK.out.1 HK.out.2 v3)
          have wn : (Lit.int .i64 m.frm).wf = true := HFW.out m HK.out.1
          have HWN := Lib.hid wn
          clear wn
          generalize m.bytes = mb at *
          obtain ⟨k0, k1, k2, k3, k4, k5, k6, k7, k8, kt, kL⟩ := m
          dsimp only at PB HWN
          clear HK
          obtain ⟨nl, hnl⟩ : ∃ n, kL.length = n := ⟨_, rfl⟩
          simp only [hnl] at PB
          clear hnl
          go_wp2_with fail
          refine PB.out.mono ?_
          rintro e v4 ⟨ma, mq, rfl, hg, -⟩
          replace HG0 := Lib.hid ((HG0.out.trans hg).alloc (.cells #[.int .i64 k0, .int .i64 k1, .int .i64 k2, .int .i64 k3, .int .u64 k4, .int .i64 k5, .int .i64 k6, .int .i64 k7, .bool k8, .string kt, .slice ma nl mq] 41))
          replace HV0 := Lib.hid (HV0.out.gr (hg.alloc (.cells #[.int .i64 k0, .int .i64 k1, .int .i64 k2, .int .i64 k3, .int .u64 k4, .int .i64 k5, .int .i64 k6, .int .i64 k7, .bool k8, .string kt, .slice ma nl mq] 41)))
          have HM := Lib.hid (Blk.new v4 #[.int .i64 k0, .int .i64 k1, .int .i64 k2, .int .i64 k3, .int .u64 k4, .int .i64 k5, .int .i64 k6, .int .i64 k7, .bool k8, .string kt, .slice ma nl mq] 41)
          clear hg PB
          go_upto_region 14 with fail
          generalize v4.alloc (.cells #[.int .i64 k0, .int .i64 k1, .int .i64 k2, .int .i64 k3, .int .u64 k4, .int .i64 k5, .int .i64 k6, .int .i64 k7, .bool k8, .string kt, .slice ma nl mq] 41) = v5 at *
          generalize v4.heap.size = mb2 at *
          have m1 := HM.out.cell (i := 1) rfl
          have ST := Lib.hid (vSet_any v5 HV0.out)
          go_wp2_with fail
          refine ST.out.mono ?_
          rintro e v6 ⟨rfl, rfl⟩
          clear ST
          rcases AD.out s k1 HS.out with ⟨hf, hne, hlt2, hle, hge⟩ | ⟨hf, he⟩
          · obtain ⟨s', hs'⟩ : ∃ s', addS r p s k1 = s' := ⟨_, rfl⟩
            rw [hs'] at hne hlt2 hle hge
            have VA := Lib.hid (vAdd_to HR.out HWN.out hf hs' v5 HV0.out)
            have HS' := Lib.hid hlt2
            obtain ⟨lv', hlv'⟩ : ∃ x, least r p (kz false z1 z2) (kz false n1 n2) s' = x := ⟨_, rfl⟩
            have Q' := KL.out s'
            rw [hlv'] at hle hge Q'
            obtain ⟨qv, hqv⟩ : ∃ x, isQ r p (kz false z1 z2) (kz false n1 n2) s' = x := ⟨_, rfl⟩
            rw [hqv] at Q'
            have HLV := Lib.hid hlv'
            have HQV := Lib.hid hqv
            obtain ⟨lv, hlv⟩ : ∃ x, least r p (kz false z1 z2) (kz false n1 n2) s = x := ⟨_, rfl⟩
            have hb16 : lv ≤ 16 := by rw [← hlv]; exact HL16.out s
            rw [hlv] at hle hge ⊢
            have HLE := Lib.hid hle
            have tg : (((lv' : Nat) : Int) > ((lv : Nat) : Int)) = False := eq_false (by omega)
            have tl : (((lv' : Nat) : Int) < ((lv : Nat) : Int) - 1) = False := eq_false (by omega)
            have tw : IntKind.i64.wrap (((lv : Nat) : Int) - 1) = ((lv : Nat) : Int) - 1 := by simp [IntKind.wrap, IntKind.bits, IntKind.signed]; omega
            have ts : ((s' : Int) != (s : Int)) = true := by simp; omega
            clear hne hf hs' hlv' hqv hlv hlt2 hle hge hb16
            go_wp2_with fail
            refine VA.out.mono ?_
            rintro e v7 ⟨rfl, hV7, hS7⟩
            have HG7 := Lib.hid (hS7.gr HG0.out HBW.out)
            have HV7 := Lib.hid hV7
            clear hV7 hS7 VA m1
            have LS := Lib.hid (LE.out s' lv' v7 HS'.out HLV.out HV7.out (HT.out.gr HG7.out))
            go_wp2_with fail
            refine LS.out.mono ?_
            rintro e v8 ⟨rfl, hg⟩
            have HG8 := Lib.hid (HG7.out.trans hg)
            have HV8 := Lib.hid (HV7.out.gr hg)
            clear hg LS
            have DN := Lib.hid (vDone_to HR.out HQV.out v8 HV8.out)
            go_wp2_with fail
            refine DN.out.mono ?_
            rintro e v9 ⟨rfl, hg⟩
            have HG9 := Lib.hid (HG8.out.trans hg)
            have HV9 := Lib.hid (HV8.out.gr hg)
            clear hg DN
            have ST2 := Lib.hid (vSet_any v9 HV9.out)
            go_wp2_with fail
            refine ST2.out.mono ?_
            rintro e v10 ⟨rfl, rfl⟩
            clear ST2
            go_wp2
            go_roundw
            case rel => exact ⟨k + 1, s', by omega, by go_num, by rw [HLV.out], HS', HV9, HG9⟩
            case measure => simp [intOf]; omega
          · have VA := Lib.hid (vAdd_to HR.out HWN.out hf he v5 HV0.out)
            obtain ⟨lv, hlv⟩ : ∃ x, least r p (kz false z1 z2) (kz false n1 n2) s = x := ⟨_, rfl⟩
            have Q' := KL.out s
            obtain ⟨qv, hqv⟩ : ∃ x, isQ r p (kz false z1 z2) (kz false n1 n2) s = x := ⟨_, rfl⟩
            rw [hqv, hlv] at Q'
            have HQV := Lib.hid hqv
            have hb16 : lv ≤ 16 := by rw [← hlv]; exact HL16.out s
            have HLV := Lib.hid hlv
            rw [hlv]
            have tg : (((lv : Nat) : Int) > ((lv : Nat) : Int)) = False := eq_false (by omega)
            have tl : (((lv : Nat) : Int) < ((lv : Nat) : Int) - 1) = False := eq_false (by omega)
            have tw : IntKind.i64.wrap (((lv : Nat) : Int) - 1) = ((lv : Nat) : Int) - 1 := by simp [IntKind.wrap, IntKind.bits, IntKind.signed]; omega
            clear hf he hqv hlv hb16
            go_wp2_with fail
            refine VA.out.mono ?_
            rintro e v7 ⟨rfl, hV7, hS7⟩
            have HG7 := Lib.hid (hS7.gr HG0.out HBW.out)
            have HV7 := Lib.hid hV7
            clear hV7 hS7 VA m1
            have LS := Lib.hid (LE.out s lv v7 HS.out HLV.out HV7.out (HT.out.gr HG7.out))
            go_wp2_with fail
            refine LS.out.mono ?_
            rintro e v8 ⟨rfl, hg⟩
            have HG8 := Lib.hid (HG7.out.trans hg)
            have HV8 := Lib.hid (HV7.out.gr hg)
            clear hg LS
            have DN := Lib.hid (vDone_to HR.out HQV.out v8 HV8.out)
            go_wp2_with fail
            refine DN.out.mono ?_
            rintro e v9 ⟨rfl, hg⟩
            have HG9 := Lib.hid (HG8.out.trans hg)
            have HV9 := Lib.hid (HV8.out.gr hg)
            clear hg DN
            have ST2 := Lib.hid (vSet_any v9 HV9.out)
            go_wp2_with fail
            refine ST2.out.mono ?_
            rintro e v10 ⟨rfl, rfl⟩
            clear ST2
            go_wp2
            go_roundw
            case rel => exact ⟨k + 1, s, by omega, by go_num, by rw [HLV.out], HS, HV9, HG9⟩
            case measure => simp [intOf]; omega
        · go_wp2
          go_ret
          exact ⟨rfl, HG0.out⟩
      · go_wp2
        go_ret
        exact ⟨rfl, HG0.out⟩
  · have HL16 := Lib.hid (fun s => HL16.out (kz true z1 z2) (kz true n1 n2) s (kz_in HR.out true).2.1 (by have := (kz_in HR.out true).2.2.2; have := HR.out.shp.hp; omega))
    have x0 := HX.out.cell (i := 0) rfl
    have x1 := HX.out.cell (i := 1) rfl
    have x2 := HX.out.cell (i := 2) rfl
    have x3 := HX.out.cell (i := 3) rfl
    have x4 := HX.out.cell (i := 4) rfl
    have x5 := HX.out.cell (i := 5) rfl
    have x6 := HX.out.cell (i := 6) rfl
    go_wp2_with fail
    refine (vSecond_any r p W z1 n1 z2 n2 _).mono ?_
    rintro e w5 ⟨b, rfl, hb, hV, hg⟩
    replace HG1 := Lib.hid (HG1.out.trans hg)
    replace HX := Lib.hid (HX.out.gr hg)
    clear hg hb hV x0 x1 x2 x3 x4 x5 x6
    have x0 := HX.out.cell (i := 0) rfl
    have x1 := HX.out.cell (i := 1) rfl
    have x2 := HX.out.cell (i := 2) rfl
    have x3 := HX.out.cell (i := 3) rfl
    have x4 := HX.out.cell (i := 4) rfl
    have x5 := HX.out.cell (i := 5) rfl
    have x6 := HX.out.cell (i := 6) rfl
    go_wp2_with fail
    refine (vFirst_any r p W z1 n1 z2 n2 _).mono ?_
    rintro e w6 ⟨b, rfl, hb, hV, hg⟩
    have HBW := Lib.hid (Nat.le_trans HG1.out.size hb)
    replace HG1 := Lib.hid (HG1.out.trans hg)
    have HV := Lib.hid hV
    clear hg hb hV HX x0 x1 x2 x3 x4 x5 x6
    have KL := Lib.hid (fun s => kz49 HR.out true s)
    have AD := Lib.hid (fun s n hs => add49 HR.out true s n hs)
    have LE := Lib.hid (fun s k wq hs hl h hT => @vLeast_to b r p W z1 n1 z2 n2 s k true HR.out hs hl wq h hT)
    have h9 := shp12 HR.out.shp
    have H9 := Lib.hid h9
    have HP0 := Lib.hid (Nat.two_pow_pos (r * p))
    have L0 := Lib.hid (LE.out 0 _ w6 HP0.out rfl HV.out (HT.out.gr HG1.out))
    clear h9
    go_wp2_with fail
    refine L0.out.mono ?_
    rintro e w7 ⟨rfl, hg⟩
    have HGL := Lib.hid (HG1.out.trans hg)
    have HVL := Lib.hid (HV.out.gr hg)
    clear hg L0 HG1 HV
    go_wp2_with fail
    go_loopw [9, 10] (fun v i wr => ∃ (k u : Nat), k ≤ l.length ∧ i = .int .i64 (k : Nat) ∧ v = .int .i64 (least r p (kz true z1 z2) (kz true n1 n2) u : Nat) ∧ Hid (u < 2 ^ (r * p)) ∧ Hid (VtIs wr b r p W z1 n1 z2 n2 true u) ∧ Hid (Gr w wr)) (fun _ i _ => l.length - (intOf i).toNat)
    case atStart => exact ⟨0, 0, by omega, rfl, rfl, HP0, HVL, HGL⟩
    case round =>
      obtain ⟨k, s, hk, rfl, rfl, HS, HV0, HG0⟩ := hrel
      by_cases hlt : k < l.length
      · by_cases h20 : k < 20
        · obtain ⟨bl, ol, rfl, hblt, ⟨c0, c1, c2, c3, c4, c5, c6, c7, c8, c9, c10⟩, hok⟩ := (HL.out.gr HG0.out).at k hlt
          generalize l[k] = q at *
          obtain ⟨⟨q0, q1, q2, q3, q4, q5, q6, q7, q8, qt, qL⟩, qa, qc⟩ := q
          obtain ⟨hq1, hq2, hq3⟩ := hok
          dsimp only at c0 c1 c2 c3 c4 c5 c6 c7 c8 c9 c10 hq1 hq2 hq3
          have RM := Lib.hid (right10_any q0 q1 q2 q3 q4 q5 q6 q7 q8 qt qL wr hq1 hq2 hq3)
          clear hq1 hq2 hq3
          go_wp2_with fail
          refine RM.out.mono ?_
          rintro e v1 ⟨m, ms, la, qa2, rfl, HM1, HK, HRA, hg⟩
          obtain rfl := HM1.out
          replace HG0 := Lib.hid (HG0.out.trans hg)
          replace HV0 := Lib.hid (HV0.out.gr hg)
          clear hg RM HM1 c0 c1 c2 c3 c4 c5 c6 c7 c8 c9 c10
          have hl1 : m.L.length ≤ 1000 := by have := HK.out.1.len; omega
          have OW := Lib.hid (own_mg (a := la) (q := qa2) m hl1 v1 HRA.out)
          go_wp2_with fail
          refine OW.out.mono ?_
          rintro e v2 ⟨oa, oq, rfl, HOR, hg⟩
          replace HG0 := Lib.hid (HG0.out.trans hg)
          replace HV0 := Lib.hid (HV0.out.gr hg)
          clear hg OW HRA hl1
          have BX := Lib.hid (bytesX_mg (a := oa) (q := oq) m HK.out.1 v2 HOR.out)
          go_wp2_with fail
          refine BX.out.mono ?_
          rintro e v3 ⟨rfl, hg⟩
          replace HG0 := Lib.hid (HG0.out.trans hg)
          replace HV0 := Lib.hid (HV0.out.gr hg)
          clear hg BX HOR
          have PB := Lib.hid (parse_back HK.out.1 HK.out.2 v3)
          have wn : (Lit.int .i64 m.frm).wf = true := HFW.out m HK.out.1
          have HWN := Lib.hid wn
          clear wn
          generalize m.bytes = mb at *
          obtain ⟨k0, k1, k2, k3, k4, k5, k6, k7, k8, kt, kL⟩ := m
          dsimp only at PB HWN
          clear HK
          obtain ⟨nl, hnl⟩ : ∃ n, kL.length = n := ⟨_, rfl⟩
          simp only [hnl] at PB
          clear hnl
          go_wp2_with fail
          refine PB.out.mono ?_
          rintro e v4 ⟨ma, mq, rfl, hg, -⟩
          replace HG0 := Lib.hid ((HG0.out.trans hg).alloc (.cells #[.int .i64 k0, .int .i64 k1, .int .i64 k2, .int .i64 k3, .int .u64 k4, .int .i64 k5, .int .i64 k6, .int .i64 k7, .bool k8, .string kt, .slice ma nl mq] 41))
          replace HV0 := Lib.hid (HV0.out.gr (hg.alloc (.cells #[.int .i64 k0, .int .i64 k1, .int .i64 k2, .int .i64 k3, .int .u64 k4, .int .i64 k5, .int .i64 k6, .int .i64 k7, .bool k8, .string kt, .slice ma nl mq] 41)))
          have HM := Lib.hid (Blk.new v4 #[.int .i64 k0, .int .i64 k1, .int .i64 k2, .int .i64 k3, .int .u64 k4, .int .i64 k5, .int .i64 k6, .int .i64 k7, .bool k8, .string kt, .slice ma nl mq] 41)
          clear hg PB
          go_upto_region 14 with fail
          generalize v4.alloc (.cells #[.int .i64 k0, .int .i64 k1, .int .i64 k2, .int .i64 k3, .int .u64 k4, .int .i64 k5, .int .i64 k6, .int .i64 k7, .bool k8, .string kt, .slice ma nl mq] 41) = v5 at *
          generalize v4.heap.size = mb2 at *
          have m1 := HM.out.cell (i := 1) rfl
          have ST := Lib.hid (vSet_any v5 HV0.out)
          go_wp2_with fail
          refine ST.out.mono ?_
          rintro e v6 ⟨rfl, rfl⟩
          clear ST
          rcases AD.out s k1 HS.out with ⟨hf, hne, hlt2, hle, hge⟩ | ⟨hf, he⟩
          · obtain ⟨s', hs'⟩ : ∃ s', addS r p s k1 = s' := ⟨_, rfl⟩
            rw [hs'] at hne hlt2 hle hge
            have VA := Lib.hid (vAdd_to HR.out HWN.out hf hs' v5 HV0.out)
            have HS' := Lib.hid hlt2
            obtain ⟨lv', hlv'⟩ : ∃ x, least r p (kz true z1 z2) (kz true n1 n2) s' = x := ⟨_, rfl⟩
            have Q' := KL.out s'
            rw [hlv'] at hle hge Q'
            obtain ⟨qv, hqv⟩ : ∃ x, isQ r p (kz true z1 z2) (kz true n1 n2) s' = x := ⟨_, rfl⟩
            rw [hqv] at Q'
            have HLV := Lib.hid hlv'
            have HQV := Lib.hid hqv
            obtain ⟨lv, hlv⟩ : ∃ x, least r p (kz true z1 z2) (kz true n1 n2) s = x := ⟨_, rfl⟩
            have hb16 : lv ≤ 16 := by rw [← hlv]; exact HL16.out s
            rw [hlv] at hle hge ⊢
            have HLE := Lib.hid hle
            have tg : (((lv' : Nat) : Int) > ((lv : Nat) : Int)) = False := eq_false (by omega)
            have tl : (((lv' : Nat) : Int) < ((lv : Nat) : Int) - 1) = False := eq_false (by omega)
            have tw : IntKind.i64.wrap (((lv : Nat) : Int) - 1) = ((lv : Nat) : Int) - 1 := by simp [IntKind.wrap, IntKind.bits, IntKind.signed]; omega
            have ts : ((s' : Int) != (s : Int)) = true := by simp; omega
            clear hne hf hs' hlv' hqv hlv hlt2 hle hge hb16
            go_wp2_with fail
            refine VA.out.mono ?_
            rintro e v7 ⟨rfl, hV7, hS7⟩
            have HG7 := Lib.hid (hS7.gr HG0.out HBW.out)
            have HV7 := Lib.hid hV7
            clear hV7 hS7 VA m1
            have LS := Lib.hid (LE.out s' lv' v7 HS'.out HLV.out HV7.out (HT.out.gr HG7.out))
            go_wp2_with fail
            refine LS.out.mono ?_
            rintro e v8 ⟨rfl, hg⟩
            have HG8 := Lib.hid (HG7.out.trans hg)
            have HV8 := Lib.hid (HV7.out.gr hg)
            clear hg LS
            have DN := Lib.hid (vDone_to HR.out HQV.out v8 HV8.out)
            go_wp2_with fail
            refine DN.out.mono ?_
            rintro e v9 ⟨rfl, hg⟩
            have HG9 := Lib.hid (HG8.out.trans hg)
            have HV9 := Lib.hid (HV8.out.gr hg)
            clear hg DN
            have ST2 := Lib.hid (vSet_any v9 HV9.out)
            go_wp2_with fail
            refine ST2.out.mono ?_
            rintro e v10 ⟨rfl, rfl⟩
            clear ST2
            go_wp2
            go_roundw
            case rel => exact ⟨k + 1, s', by omega, by go_num, by rw [HLV.out], HS', HV9, HG9⟩
            case measure => simp [intOf]; omega
          · have VA := Lib.hid (vAdd_to HR.out HWN.out hf he v5 HV0.out)
            obtain ⟨lv, hlv⟩ : ∃ x, least r p (kz true z1 z2) (kz true n1 n2) s = x := ⟨_, rfl⟩
            have Q' := KL.out s
            obtain ⟨qv, hqv⟩ : ∃ x, isQ r p (kz true z1 z2) (kz true n1 n2) s = x := ⟨_, rfl⟩
            rw [hqv, hlv] at Q'
            have HQV := Lib.hid hqv
            have hb16 : lv ≤ 16 := by rw [← hlv]; exact HL16.out s
            have HLV := Lib.hid hlv
            rw [hlv]
            have tg : (((lv : Nat) : Int) > ((lv : Nat) : Int)) = False := eq_false (by omega)
            have tl : (((lv : Nat) : Int) < ((lv : Nat) : Int) - 1) = False := eq_false (by omega)
            have tw : IntKind.i64.wrap (((lv : Nat) : Int) - 1) = ((lv : Nat) : Int) - 1 := by simp [IntKind.wrap, IntKind.bits, IntKind.signed]; omega
            clear hf he hqv hlv hb16
            go_wp2_with fail
            refine VA.out.mono ?_
            rintro e v7 ⟨rfl, hV7, hS7⟩
            have HG7 := Lib.hid (hS7.gr HG0.out HBW.out)
            have HV7 := Lib.hid hV7
            clear hV7 hS7 VA m1
            have LS := Lib.hid (LE.out s lv v7 HS.out HLV.out HV7.out (HT.out.gr HG7.out))
            go_wp2_with fail
            refine LS.out.mono ?_
            rintro e v8 ⟨rfl, hg⟩
            have HG8 := Lib.hid (HG7.out.trans hg)
            have HV8 := Lib.hid (HV7.out.gr hg)
            clear hg LS
            have DN := Lib.hid (vDone_to HR.out HQV.out v8 HV8.out)
            go_wp2_with fail
            refine DN.out.mono ?_
            rintro e v9 ⟨rfl, hg⟩
            have HG9 := Lib.hid (HG8.out.trans hg)
            have HV9 := Lib.hid (HV8.out.gr hg)
            clear hg DN
            have ST2 := Lib.hid (vSet_any v9 HV9.out)
            go_wp2_with fail
            refine ST2.out.mono ?_
            rintro e v10 ⟨rfl, rfl⟩
            clear ST2
            go_wp2
            go_roundw
            case rel => exact ⟨k + 1, s, by omega, by go_num, by rw [HLV.out], HS, HV9, HG9⟩
            case measure => simp [intOf]; omega
        · go_wp2
          go_ret
          exact ⟨rfl, HG0.out⟩
      · go_wp2
        go_ret
        exact ⟨rfl, HG0.out⟩
end Go.Proofs.YtfgkgpkaohkehaaGreatDoor
