import Derived.Test.YtkihencimbdoiaaH16b
import Derived.Test.YtkihencimbdoiaaL16
import Derived.Test.YtkihencimbdoiaaF16A
import Derived.WalkKit
import Derived.ProofKit
import Derived.LoopTactic
import Derived.Outline
import Derived.WalkSpells
import Derived.WalkLawsBesides
import Derived.Lib.Hide
import Derived.Deep.LoopGhost
import Derived.Deep.QuietTactic
import Derived.BigQuiet
import Derived.ShutString
import Derived.IntWalk
import Derived.Deep.CutBlock
namespace Go.Proofs.Ytkihencimbdoiaa
open Go.ChangeShapes Go.WideShapes Go.ChangeAt Go.RowKit
open Bal
set_option linter.unusedVariables false
set_option linter.unusedSimpArgs false
theorem AcIs.put {w0 w : World} {b c : Nat} {v : Value} {a : Ac} {ms : List Value} (h : AcIs w0 w b v a) (hg : w.grownBy (w.setCells c 0 ms) (some c)) (hne : c ≠ b) (hc : w0.heap.size ≤ c) (hv : v.ownBlock ≠ some c) : AcIs w0 (w.setCells c 0 ms) b v a :=
  ⟨h.base, gr_put h.grown hg hc, h.blk.put_other hg (fun e => hne e.symm), h.row.kept hg (.inr hv)⟩
/-- What P16.2 asks of a step. -/
structure KeepOk (a a' : Ac) (rk c n fr nw : Int) : Prop where
  up : ¬ cmpB a'.pc a'.pn a.pc a.pn < 0
  acc : rk = 4 → ¬ cmpB c n a.pc a.pn < 0 ∧ a'.pc = c ∧ a'.pn = n
  bar : 0 ≤ a.to - 1 → a.to - 1 ≠ fr → nw < a.til → rk ≠ 2 ∧ rk ≠ 11
  own : 0 ≤ a.to - 1 → a'.to ≠ a.to → ¬ nw < a.til
  till : a'.to = a.to → a.til ≤ a'.til
theorem cmp_self (x y : Int) : ¬ cmpB x y x y < 0 := by simp [cmpB, cmpI, orI]
theorem keep_same (a : Ac) (rk c n fr nw : Int) (h4 : rk ≠ 4) (h2 : rk ≠ 2) (h11 : rk ≠ 11) : KeepOk a a rk c n fr nw :=
  ⟨cmp_self _ _, fun h => absurd h h4, fun _ _ _ => ⟨h2, h11⟩, fun _ h => absurd rfl h, fun _ => Int.le_refl _⟩
theorem not_late {a : Ac} {c n : Int} (h : ¬ a.late c n = true) : ¬ cmpB c n a.pc a.pn < 0 := fun e => h (decide_eq_true e)
theorem not_bars {a : Ac} {fr nw : Int} (h : ¬ a.bars fr nw = true) : 0 ≤ a.to - 1 → a.to - 1 ≠ fr → ¬ nw < a.til := fun h1 h2 h3 => h (by
  unfold Ac.bars barsA
  have e1 : decide (a.to = 0 ∧ a.til = 0) = false := decide_eq_false (fun e => by omega)
  have e2 : (a.to != fr + 1) = true := by rw [bne_iff_ne]; omega
  rw [e1, e2, decide_eq_true h3]; rfl)
theorem keep_prepare (a : Ac) (fr c n nw : Int) : KeepOk a (a.prepare fr c n nw) (a.prepareR fr c n nw).k c n fr nw := by
  unfold Ac.prepare Ac.prepareR
  by_cases h1 : a.bars fr nw = true
  · rw [if_pos h1, if_pos h1]; exact keep_same a 5 c n fr nw (by decide) (by decide) (by decide)
  · rw [if_neg h1, if_neg h1]
    by_cases h2 : a.late c n = true
    · rw [if_pos h2, if_pos h2]; exact keep_same a 5 c n fr nw (by decide) (by decide) (by decide)
    · rw [if_neg h2, if_neg h2]
      exact ⟨not_late h2, fun h => absurd h (show (2 : Int) ≠ 4 by decide), fun e1 e2 e3 => absurd e3 (not_bars h1 e1 e2), fun _ h => absurd rfl h, fun _ => Int.le_refl _⟩
theorem keep_accept (a : Ac) (fr c n slot nw : Int) (text : ByteArray) : KeepOk a (a.accept c n slot text) (a.acceptR c n slot text).k c n fr nw := by
  unfold Ac.accept Ac.acceptR
  by_cases h2 : a.late c n = true
  · rw [if_pos h2, if_pos h2]; exact keep_same a 5 c n fr nw (by decide) (by decide) (by decide)
  · rw [if_neg h2, if_neg h2]
    by_cases h3 : a.full slot = true
    · rw [if_pos h3, if_pos h3]; exact keep_same a 0 c n fr nw (by decide) (by decide) (by decide)
    · rw [if_neg h3, if_neg h3]
      by_cases h4 : a.ba < slot
      · rw [if_pos h4, if_pos h4]
        exact ⟨not_late h2, fun _ => ⟨not_late h2, rfl, rfl⟩, fun _ _ _ => ⟨(by decide : (4 : Int) ≠ 2), (by decide : (4 : Int) ≠ 11)⟩, fun _ h => absurd rfl h, fun _ => Int.le_refl _⟩
      · rw [if_neg h4, if_neg h4]
        exact ⟨not_late h2, fun _ => ⟨not_late h2, rfl, rfl⟩, fun _ _ _ => ⟨(by decide : (4 : Int) ≠ 2), (by decide : (4 : Int) ≠ 11)⟩, fun _ h => absurd rfl h, fun _ => Int.le_refl _⟩
theorem keep_ask (a : Ac) (fr c n time nw lg : Int) : KeepOk a (a.ask fr c n nw lg) (a.askR fr c n time nw lg).k c n fr nw := by
  unfold Ac.ask Ac.askR
  by_cases h2 : a.late c n = true
  · rw [if_pos h2, if_pos h2]; exact keep_same a 5 c n fr nw (by decide) (by decide) (by decide)
  · rw [if_neg h2, if_neg h2]
    by_cases h1 : a.bars fr nw = true
    · rw [if_pos h1, if_pos h1]; exact keep_same a 5 c n fr nw (by decide) (by decide) (by decide)
    · rw [if_neg h1, if_neg h1]
      refine ⟨not_late h2, fun h => absurd h (show (11 : Int) ≠ 4 by decide), fun e1 e2 e3 => absurd e3 (not_bars h1 e1 e2), fun e1 e2 => not_bars h1 e1 (fun e3 => e2 (by show fr + 1 = a.to; omega)), fun _ => ?_⟩
      show a.til ≤ untilA nw lg a.til
      unfold untilA; omega
/-- What is known behind the call: p7 the act, p8 what was promised, p11 the message, p12 the reply. -/
def Behind (w1 : World) (pb p7 p8 p11 p12 : Nat) (a : Ac) (K FR SL TI NW LG C N : Int) (TX : ByteArray) (wx : World) : Prop :=
  ∃ (rk rc rn rs rt : Int) (la : Option Addr) (ll lc : Nat) (v' : Value) (a' : Ac), AcIs w1 wx pb v' a' ∧ a'.Ok ∧ KeepOk a a' rk C N FR NW ∧ Blk wx p7 #[.int .i64 K, .int .i64 FR, .int .i64 SL, .int .i64 TI, .int .i64 NW, .int .i64 LG, .int .u64 C, .int .i64 N, .string TX] 41 ∧ Blk wx p8 #[.int .u64 a.pc, .int .i64 a.pn] 27 ∧ Blk wx p11 #[.int .i64 0, .int .i64 FR, .int .i64 0, .int .i64 0, .int .u64 C, .int .i64 N, .int .i64 SL, .int .i64 TI, .bool false, .string TX, .slice none 0 0] 30 ∧ Blk wx p12 #[.int .i64 rk, .int .i64 0, .int .i64 0, .int .i64 0, .int .u64 rc, .int .i64 rn, .int .i64 rs, .int .i64 rt, .bool false, .string ⟨#[]⟩, .slice la ll lc] 30
set_option maxRecDepth 100000 in
set_option maxHeartbeats 4000000 in
theorem keeps_walk16 (wit : Bool) (L : List Act16) (ra : Option Addr) (rc : Nat) (w : World) (hr : Act16Row w ra L) :
    Calls Try.prog 4 #[.bool wit, .slice ra L.length rc] w fun e w' => e = .returned (.bool true) ∧ Gr w w' := by
  have HRW := Lib.hid hr
  clear hr
  go_enter Try.func4, Try.ntmps4
  go_wp2_with fail
  refine (awake16 _).mono ?_
  rintro e w1 ⟨rfl, hg1⟩
  go_wp2_with fail
  refine (acNew_st wit _).mono ?_
  rintro e w2 ⟨rfl, hA2⟩
  have HG1 := Lib.hid hg1
  have HA2 := Lib.hid hA2
  have HOK := Lib.hid (ok0 wit)
  clear hg1 hA2
  go_wp2
  generalize hpb : w1.heap.size = pb at *
  have HPB := Lib.hid hpb
  clear hpb
  go_loopg [6] 60 (fun g u6 wr => ∃ (k : Nat) (v : Value) (a : Ac), g + k = 60 ∧ u6 = .int .i64 (k : Nat) ∧ Hid (AcIs w1 wr pb v a) ∧ Hid a.Ok)
  case atStart => exact ⟨0, .slice none 0 0, ⟨wit, 0, 0, 0, [], 0, 0⟩, by omega, rfl, HA2, HOK⟩
  case round =>
    clear HA2 HOK
    obtain ⟨k, v, a, hgk, rfl, HA, HOK⟩ := hrel
    by_cases hlt : k < L.length
    · have hk4 : (k : Int) < (L.length : Int) := by omega
      by_cases hk6 : k < 60
      · have hk7 : (k : Int) < 60 := by omega
        obtain ⟨rb, off, rfl, hrl, hat, hok⟩ := HRW.out.at k hlt
        obtain ⟨⟨K, FR, SL, TI, NW, LG, C, N, TX⟩, hq, hqk, hfew⟩ := few16_det _ hok
        clear hqk
        simp only [Act16.vals] at hfew
        have HQ := Lib.hid hq
        have HFW := Lib.hid hfew
        obtain ⟨c0, c1, c2, c3, c4, c5, c6, c7, c8⟩ := hat.gr (HG1.out.trans HA.out.grown)
        clear hq hfew hat hok
        go_wp2_with fail
        refine (HFW.out _).mono ?_
        rintro e w3 ⟨rfl, hg3⟩
        have HG4 := Lib.hid (hg3.trans ((Gr.refl w3).alloc (.cells #[.int .i64 K, .int .i64 FR, .int .i64 SL, .int .i64 TI, .int .i64 NW, .int .i64 LG, .int .u64 C, .int .i64 N, .string TX] 41)))
        have HA4 := Lib.hid (HA.out.gr HG4.out)
        have HP7 := Lib.hid (Blk.new w3 #[.int .i64 K, .int .i64 FR, .int .i64 SL, .int .i64 TI, .int .i64 NW, .int .i64 LG, .int .u64 C, .int .i64 N, .string TX] 41)
        have HN7 := Lib.hid (show w3.heap.size ≠ pb by have := HA.out.lt; have := hg3.size; omega)
        clear hg3 HA HG4 c0 c1 c2 c3 c4 c5 c6 c7 c8
        go_wp2_with fail
        generalize w3.alloc (.cells #[.int .i64 K, .int .i64 FR, .int .i64 SL, .int .i64 TI, .int .i64 NW, .int .i64 LG, .int .u64 C, .int .i64 N, .string TX] 41) = w4 at *
        generalize w3.heap.size = p7 at *
        refine (promised_st HA4.out).mono ?_
        rintro e w5 ⟨rfl, hg5⟩
        have HG6 := Lib.hid (hg5.trans ((Gr.refl w5).alloc (.cells #[.int .u64 a.pc, .int .i64 a.pn] 27)))
        have HA6 := Lib.hid (HA4.out.gr HG6.out)
        have HP7b := Lib.hid (HP7.out.gr HG6.out)
        have HP8 := Lib.hid (Blk.new w5 #[.int .u64 a.pc, .int .i64 a.pn] 27)
        have HN8 := Lib.hid (show w5.heap.size ≠ pb by have := HA4.out.lt; have := hg5.size; omega)
        clear hg5 HA4 HG6 HP7
        go_wp2_with fail
        generalize w5.alloc (.cells #[.int .u64 a.pc, .int .i64 a.pn] 27) = w6 at *
        generalize w5.heap.size = p8 at *
        refine (holder_st HA6.out HOK.out).mono ?_
        rintro e w7 ⟨rfl, hg7⟩
        have HG8 := Lib.hid ((hg7.trans ((Gr.refl w7).alloc (.cells #[.int .i64 0, .int .i64 FR, .int .i64 0, .int .i64 0, .int .u64 C, .int .i64 N, .int .i64 SL, .int .i64 TI, .bool false, .string TX, .slice none 0 0] 30))).alloc (.cells #[.int .i64 0, .int .i64 0, .int .i64 0, .int .i64 0, .int .u64 0, .int .i64 0, .int .i64 0, .int .i64 0, .bool false, .string ⟨#[]⟩, .slice none 0 0] 30))
        have HA8 := Lib.hid (HA6.out.gr HG8.out)
        have HP7c := Lib.hid (HP7b.out.gr HG8.out)
        have HP8c := Lib.hid (HP8.out.gr HG8.out)
        have HP11 := Lib.hid ((Blk.new w7 #[.int .i64 0, .int .i64 FR, .int .i64 0, .int .i64 0, .int .u64 C, .int .i64 N, .int .i64 SL, .int .i64 TI, .bool false, .string TX, .slice none 0 0] 30).gr ((Gr.refl _).alloc (.cells #[.int .i64 0, .int .i64 0, .int .i64 0, .int .i64 0, .int .u64 0, .int .i64 0, .int .i64 0, .int .i64 0, .bool false, .string ⟨#[]⟩, .slice none 0 0] 30)))
        have HP12 := Lib.hid (Blk.new (w7.alloc (.cells #[.int .i64 0, .int .i64 FR, .int .i64 0, .int .i64 0, .int .u64 C, .int .i64 N, .int .i64 SL, .int .i64 TI, .bool false, .string TX, .slice none 0 0] 30)) #[.int .i64 0, .int .i64 0, .int .i64 0, .int .i64 0, .int .u64 0, .int .i64 0, .int .i64 0, .int .i64 0, .bool false, .string ⟨#[]⟩, .slice none 0 0] 30)
        rw [show (w7.alloc (.cells #[.int .i64 0, .int .i64 FR, .int .i64 0, .int .i64 0, .int .u64 C, .int .i64 N, .int .i64 SL, .int .i64 TI, .bool false, .string TX, .slice none 0 0] 30)).heap.size = w7.heap.size + 1 by simp] at HP12
        have HN11 := Lib.hid (show w7.heap.size ≠ pb by have := HA6.out.lt; have := hg7.size; omega)
        have HN12 := Lib.hid (show w7.heap.size + 1 ≠ pb by have := HA6.out.lt; have := hg7.size; omega)
        have HC12 := Lib.hid (show w1.heap.size ≤ w7.heap.size + 1 by have := HA6.out.base; have := HA6.out.lt; have := hg7.size; omega)
        have HN712 := Lib.hid (show p7 ≠ w7.heap.size + 1 by have := HP7b.out.lt; have := hg7.size; omega)
        have HN812 := Lib.hid (show p8 ≠ w7.heap.size + 1 by have := HP8.out.lt; have := hg7.size; omega)
        have e0 := HP7b.out.gr hg7
        have e1 := e0.cell (i := 1) rfl
        have e2 := e0.cell (i := 2) rfl
        have e3 := e0.cell (i := 3) rfl
        have e4 := e0.cell (i := 4) rfl
        have e6 := e0.cell (i := 6) rfl
        have e7 := e0.cell (i := 7) rfl
        have e8 := e0.cell (i := 8) rfl
        have f0 := HP7c.out.cell (i := 0) rfl
        clear e0 hg7 HA6 HP7b HP8 HG8
        go_upto_block 2 with fail
        generalize (w7.alloc (.cells #[.int .i64 0, .int .i64 FR, .int .i64 0, .int .i64 0, .int .u64 C, .int .i64 N, .int .i64 SL, .int .i64 TI, .bool false, .string TX, .slice none 0 0] 30)).alloc (.cells #[.int .i64 0, .int .i64 0, .int .i64 0, .int .i64 0, .int .u64 0, .int .i64 0, .int .i64 0, .int .i64 0, .bool false, .string ⟨#[]⟩, .slice none 0 0] 30) = w8 at *
        have HN1112 := Lib.hid (show w7.heap.size ≠ w7.heap.size + 1 by omega)
        generalize hp12 : w7.heap.size + 1 = p12 at *
        generalize w7.heap.size = p11 at *
        clear hp12 f0 e1 e2 e3 e4 e6 e7 e8
        go_cut [] from 21 to 159 (fun wx => Hid (Behind w1 pb p7 p8 p11 p12 a K FR SL TI NW LG C N TX wx))
        case first =>
          have HA9 := HA8
          have g0 := HP11.out.cell (i := 0) rfl
          have g1 := HP11.out.cell (i := 1) rfl
          have g2 := HP11.out.cell (i := 2) rfl
          have g3 := HP11.out.cell (i := 3) rfl
          have g4 := HP11.out.cell (i := 4) rfl
          have g5 := HP11.out.cell (i := 5) rfl
          have g6 := HP11.out.cell (i := 6) rfl
          have g7 := HP11.out.cell (i := 7) rfl
          have g8 := HP11.out.cell (i := 8) rfl
          have g9 := HP11.out.cell (i := 9) rfl
          have g10 := HP11.out.cell (i := 10) rfl
          have e4 := HP7c.out.cell (i := 4) rfl
          have e5 := HP7c.out.cell (i := 5) rfl
          by_cases k0 : K = 0
          · subst k0
            have HKO := Lib.hid (keep_prepare a FR C N NW)
            have HOK2 := Lib.hid (HOK.out.prepare FR C N NW)
            have HC := Lib.hid (prepare_st 0 FR 0 0 C N SL TI false TX none 0 0 NW HA9.out HOK.out ⟨HQ.out.fr.1, by have := HQ.out.fr.2; show FR ≤ 1000000; have h : FR ≤ 11 := this; omega⟩ ⟨HQ.out.nw.1, by have h : NW ≤ 65535 := HQ.out.nw.2; show NW ≤ 4000000000000; omega⟩)
            obtain ⟨⟨rk, rc9, rn, rs, rt, rch⟩, hR⟩ : ∃ R, R = a.prepareR FR C N NW := ⟨_, rfl⟩
            rw [← hR] at HKO HC
            simp only [Rep.msg] at HC HKO
            clear hR
            go_wp2_with fail
            refine HC.out.mono ?_
            rintro e w9 ⟨xa, xl, xc, rfl, _, v', hA9', hF9, _⟩
            have HM9 := Lib.hid (HA9.out.keep hF9 HP11.out HN11.out (by decide))
            have HR9 := Lib.hid (HA9.out.keep hF9 HP12.out HN12.out (by decide))
            have HX7 := Lib.hid (HA9.out.keep hF9 HP7c.out HN7.out (by decide))
            have HX8 := Lib.hid (HA9.out.keep hF9 HP8c.out HN8.out (by decide))
            obtain ⟨ms, hms, hml, hT, hO, hgr, hBl⟩ := blk_put HR9.out #[.int .i64 rk, .int .i64 0, .int .i64 0, .int .i64 0, .int .u64 rc9, .int .i64 rn, .int .i64 rs, .int .i64 rt, .bool false, .string ⟨#[]⟩, .slice xa xl xc] rfl (by intro u hu; simp only [List.mem_cons, List.not_mem_nil, or_false] at hu; rcases hu with rfl | rfl | rfl | rfl | rfl | rfl | rfl | rfl | rfl | rfl | rfl <;> rfl)
            have HGB := Lib.hid hgr
            have HBL := Lib.hid hBl
            have HMS := Lib.hid hms
            have HML := Lib.hid hml
            have HTT := Lib.hid hT
            have HOO := Lib.hid hO
            clear hms hml hT hO hgr hBl hF9 g0 g1 g2 g3 g4 g5 g6 g7 g8 g9 g10 e4 e5
            go_wp2_with (first | (refine wpList_store_mid rfl 30 (.tmp 12) (.tmp 64) (by rfl) p12 0 ms.toArray (by rfl) (by exact HMS.out) HTT.out (by rw [HML.out]; kernel_rfl) HOO.out ?_))
            go_meet
            exact ⟨rk, rc9, rn, rs, rt, xa, xl, xc, v', _, hA9'.put HGB.out HN12.out HC12.out (row_off HR9.out hA9'.row (by decide)), HOK2.out, HKO.out, HX7.out.put_other HGB.out HN712.out, HX8.out.put_other HGB.out HN812.out, HM9.out.put_other HGB.out HN1112.out, HBL.out⟩
          · have k0' : (K == 0) = false := beq_eq_false_iff_ne.2 k0
            by_cases k1 : K = 1
            · subst k1
              have HKO := Lib.hid (keep_accept a FR C N SL NW TX)
              have HOK2 := Lib.hid (HOK.out.accept C N SL (show TX.size ≤ 1000000 by have h : TX.size ≤ 30 := HQ.out.tx; omega))
              have HC := Lib.hid (accept_st 0 FR 0 0 C N SL TI false TX none 0 0 HA9.out HOK.out (by have h : TX.size ≤ 30 := HQ.out.tx; omega))
              obtain ⟨⟨rk, rc9, rn, rs, rt, rch⟩, hR⟩ : ∃ R, R = a.acceptR C N SL TX := ⟨_, rfl⟩
              rw [← hR] at HKO HC
              simp only [Rep.msg] at HC HKO
              clear hR
              go_wp2_with fail
              refine HC.out.mono ?_
              rintro e w9 ⟨rfl, v', hA9', hF9, _⟩
              have HM9 := Lib.hid (HA9.out.keep hF9 HP11.out HN11.out (by decide))
              have HR9 := Lib.hid (HA9.out.keep hF9 HP12.out HN12.out (by decide))
              have HX7 := Lib.hid (HA9.out.keep hF9 HP7c.out HN7.out (by decide))
              have HX8 := Lib.hid (HA9.out.keep hF9 HP8c.out HN8.out (by decide))
              obtain ⟨ms, hms, hml, hT, hO, hgr, hBl⟩ := blk_put HR9.out #[.int .i64 rk, .int .i64 0, .int .i64 0, .int .i64 0, .int .u64 rc9, .int .i64 rn, .int .i64 rs, .int .i64 rt, .bool false, .string ⟨#[]⟩, .slice none 0 0] rfl (by intro u hu; simp only [List.mem_cons, List.not_mem_nil, or_false] at hu; rcases hu with rfl | rfl | rfl | rfl | rfl | rfl | rfl | rfl | rfl | rfl | rfl <;> rfl)
              have HGB := Lib.hid hgr
              have HBL := Lib.hid hBl
              have HMS := Lib.hid hms
              have HML := Lib.hid hml
              have HTT := Lib.hid hT
              have HOO := Lib.hid hO
              clear hms hml hT hO hgr hBl hF9 g0 g1 g2 g3 g4 g5 g6 g7 g8 g9 g10 e4 e5
              go_wp2_with (first | (refine wpList_store_mid rfl 30 (.tmp 12) (.tmp 72) (by rfl) p12 0 ms.toArray (by rfl) (by exact HMS.out) HTT.out (by rw [HML.out]; kernel_rfl) HOO.out ?_))
              go_meet
              exact ⟨rk, rc9, rn, rs, rt, none, 0, 0, v', _, hA9'.put HGB.out HN12.out HC12.out (row_off HR9.out hA9'.row (by decide)), HOK2.out, HKO.out, HX7.out.put_other HGB.out HN712.out, HX8.out.put_other HGB.out HN812.out, HM9.out.put_other HGB.out HN1112.out, HBL.out⟩
            · have k1' : (K == 1) = false := beq_eq_false_iff_ne.2 k1
              by_cases k2 : K = 2
              · subst k2
                have HKO := Lib.hid (keep_ask a FR C N TI NW LG)
                have HOK2 := Lib.hid (HOK.out.ask FR C N NW LG ⟨HQ.out.fr.1, by have := HQ.out.fr.2; show FR ≤ 1000000; have h : FR ≤ 11 := this; omega⟩)
                have HC := Lib.hid (ask_st 0 FR 0 0 C N SL TI false TX none 0 0 NW LG HA9.out HOK.out ⟨HQ.out.fr.1, by have := HQ.out.fr.2; show FR ≤ 1000000; have h : FR ≤ 11 := this; omega⟩ ⟨HQ.out.nw.1, by have h : NW ≤ 65535 := HQ.out.nw.2; show NW ≤ 4000000000000; omega⟩)
                obtain ⟨⟨rk, rc9, rn, rs, rt, rch⟩, hR⟩ : ∃ R, R = a.askR FR C N TI NW LG := ⟨_, rfl⟩
                rw [← hR] at HKO HC
                simp only [Rep.msg] at HC HKO
                clear hR
                go_wp2_with fail
                refine HC.out.mono ?_
                rintro e w9 ⟨rfl, v', hA9', hF9, _⟩
                have HM9 := Lib.hid (HA9.out.keep hF9 HP11.out HN11.out (by decide))
                have HR9 := Lib.hid (HA9.out.keep hF9 HP12.out HN12.out (by decide))
                have HX7 := Lib.hid (HA9.out.keep hF9 HP7c.out HN7.out (by decide))
                have HX8 := Lib.hid (HA9.out.keep hF9 HP8c.out HN8.out (by decide))
                obtain ⟨ms, hms, hml, hT, hO, hgr, hBl⟩ := blk_put HR9.out #[.int .i64 rk, .int .i64 0, .int .i64 0, .int .i64 0, .int .u64 rc9, .int .i64 rn, .int .i64 rs, .int .i64 rt, .bool false, .string ⟨#[]⟩, .slice none 0 0] rfl (by intro u hu; simp only [List.mem_cons, List.not_mem_nil, or_false] at hu; rcases hu with rfl | rfl | rfl | rfl | rfl | rfl | rfl | rfl | rfl | rfl | rfl <;> rfl)
                have HGB := Lib.hid hgr
                have HBL := Lib.hid hBl
                have HMS := Lib.hid hms
                have HML := Lib.hid hml
                have HTT := Lib.hid hT
                have HOO := Lib.hid hO
                clear hms hml hT hO hgr hBl hF9 g0 g1 g2 g3 g4 g5 g6 g7 g8 g9 g10 e4 e5
                go_wp2_with (first | (refine wpList_store_mid rfl 30 (.tmp 12) (.tmp 84) (by rfl) p12 0 ms.toArray (by rfl) (by exact HMS.out) HTT.out (by rw [HML.out]; kernel_rfl) HOO.out ?_))
                go_meet
                exact ⟨rk, rc9, rn, rs, rt, none, 0, 0, v', _, hA9'.put HGB.out HN12.out HC12.out (row_off HR9.out hA9'.row (by decide)), HOK2.out, HKO.out, HX7.out.put_other HGB.out HN712.out, HX8.out.put_other HGB.out HN812.out, HM9.out.put_other HGB.out HN1112.out, HBL.out⟩
              · have k2' : (K == 2) = false := beq_eq_false_iff_ne.2 k2
                go_wp2
                go_meet
                exact ⟨0, 0, 0, 0, 0, none, 0, 0, v, a, HA8.out, HOK.out, keep_same a 0 C N FR NW (by decide) (by decide) (by decide), HP7c.out, HP8c.out, HP11.out, HP12.out⟩
        case rest =>
          obtain ⟨rk, rc9, rn, rs, rt, la, ll, lc, v', a', hA, hok, hko, h7, h8, h11, h12⟩ := hcut.out
          have HBAR := Lib.hid hko.bar
          have HOWN := Lib.hid (show 0 ≤ a.to - 1 → a'.to - 1 ≠ a.to - 1 → ¬ NW < a.til from fun e1 e2 => hko.own e1 (fun e => e2 (by rw [e])))
          have HTIL := Lib.hid (show a'.to - 1 = a.to - 1 → a.til ≤ a'.til from fun e => hko.till (by omega))
          have HACC := Lib.hid hko.acc
          have HUP := Lib.hid hko.up
          have HA := Lib.hid hA
          have HOK := Lib.hid hok
          have H7 := Lib.hid h7
          have H8 := Lib.hid h8
          have H11 := Lib.hid h11
          have H12 := Lib.hid h12
          clear hA hok hko h7 h8 h11 h12 hcut HA8 HP7c HP8c HP11 HP12
          generalize wc = wA at *
          have HC1 := Lib.hid (fun w => compareB_any a'.pc a'.pn a.pc a.pn w)
          generalize cmpB a'.pc a'.pn a.pc a.pn = z at *
          generalize a.to - 1 = n0 at *
          go_wp2_with fail
          have b0 := H8.out.cell (i := 0) rfl
          have b1 := H8.out.cell (i := 1) rfl
          refine wp_region_held_drew (S := (fun w9 => Gr wA w9 ∧ w9.cell? ⟨p8, 0, none⟩ = some (.int .u64 a.pc) ∧ w9.cell? ⟨p8, 1, none⟩ = some (.int .i64 a.pn))) (by kernel_rfl) ?inva (fun h0 => ?_)
          case inva => ((try dsimp only); (exact ⟨(by first | exact Gr.refl _ | exact (Gr.refl _).drew), b0, b1⟩))
          refine wpAnyH_take (i := 0) (oi := { dst := some 86, op := Go.Op.move (Go.Operand.tmp 5), type := 23, pos := "law.go:136", after := #[], guard := none }) (v := ?va1) rfl (by kernel_rfl) (by kernel_rfl) (by kernel_rfl) (fun _ _ _ h => h) (Or.inl ⟨by rfl, ?ra1⟩) (by assumption) ?_
          case ra1 => (intro w hSw; (try dsimp only at hSw); (go_simp <;> with_reducible rfl))
          try simp only [Act.put, List.setIfInBounds_toArray, List.set_cons_zero, List.set_cons_succ]
          refine wpAnyH_take (i := 2) (oi := { dst := some 88, op := Go.Op.load 27 (Go.Operand.tmp 8), type := 27, pos := "law.go:136", after := #[], guard := none }) (v := ?va2) rfl (by kernel_rfl) (by kernel_rfl) (by kernel_rfl) (fun _ _ _ h => h) (Or.inl ⟨by rfl, ?ra2⟩) (by assumption) ?_
          case ra2 => (intro w hSw; (try dsimp only at hSw); (go_simp <;> with_reducible rfl))
          try simp only [Act.put, List.setIfInBounds_toArray, List.set_cons_zero, List.set_cons_succ]
          refine wpAnyH_ready (rs := [1]) (by kernel_rfl) (by simp) ?_
          refine AllReadyH.cons (o := { dst := some 87, op := Go.Op.call { callee := Go.Callee.value (Go.Operand.func 16), args := #[Go.Operand.tmp 86], argTypes := #[23] }, type := 27, pos := "law.go:136", after := #[{ on := 0, ground := Go.Ground.data }], guard := none }) rfl (fun K hK => ?_) AllReadyH.nil
          go_simp
          go_at_call 16
          refine (promised_st (HA.out.gr h0.1)).mono ?_
          rintro e w9 ⟨rfl, hg9⟩
          first | refine hK.out _ _ ?sa3 (fun h3 => ?_) | (go_wp2_with fail; refine hK.out _ _ ?sa3 (fun h3 => ?_))
          case sa3 => ((try dsimp only); (exact ⟨h0.1.trans hg9, hg9.cell h0.2.1, hg9.cell h0.2.2⟩))
          clear hK K h0
          try simp only [Act.put, List.setIfInBounds_toArray, List.set_cons_zero, List.set_cons_succ]
          refine wpAnyH_ready (rs := [3]) (by kernel_rfl) (by simp) ?_
          refine AllReadyH.cons (o := { dst := some 89, op := Go.Op.call { callee := Go.Callee.value (Go.Operand.func 23), args := #[Go.Operand.tmp 87, Go.Operand.tmp 88], argTypes := #[27, 27] }, type := 3, pos := "law.go:136", after := #[{ on := 1, ground := Go.Ground.data }, { on := 2, ground := Go.Ground.data }, { on := 1, ground := Go.Ground.chain }], guard := none }) rfl (fun K hK => ?_) AllReadyH.nil
          go_simp
          go_at_call 23
          refine (HC1.out _).mono ?_
          rintro e w9 ⟨rfl, hg9⟩
          first | refine hK.out _ _ ?sa4 (fun h4 => ?_) | (go_wp2_with fail; refine hK.out _ _ ?sa4 (fun h4 => ?_))
          case sa4 => ((try dsimp only); (exact ⟨h3.1.trans hg9, hg9.cell h3.2.1, hg9.cell h3.2.2⟩))
          clear hK K h3
          try simp only [Act.put, List.setIfInBounds_toArray, List.set_cons_zero, List.set_cons_succ]
          refine wpAnyH_take (i := 4) (oi := { dst := some 90, op := Go.Op.binOp Go.BinOp.lss 3 (Go.Operand.tmp 89) (Go.Operand.const (Go.Value.int Go.IntKind.i64 0)) 3, type := 4, pos := "law.go:136", after := #[{ on := 3, ground := Go.Ground.data }], guard := none }) (v := (.bool false)) rfl (by kernel_rfl) (by kernel_rfl) (by kernel_rfl) (fun _ _ _ h => h) (Or.inl ⟨by rfl, ?ra5⟩) (by assumption) ?_
          case ra5 => (intro w hSw; (try dsimp only at hSw); go_simp; all_goals (have := HUP.out; first | omega | (simp; omega)))
          try simp only [Act.put, List.setIfInBounds_toArray, List.set_cons_zero, List.set_cons_succ]
          refine wpAnyH_done (by kernel_rfl) ?_ _
          have HGA := Lib.hid h4.1
          have HB := Lib.hid (HA.out.gr h4.1)
          have H7b := Lib.hid (H7.out.gr h4.1)
          have H8b := Lib.hid (H8.out.gr h4.1)
          have H11b := Lib.hid (H11.out.gr h4.1)
          have H12b := Lib.hid (H12.out.gr h4.1)
          clear h4 b0 b1 hg9 HA H7 H8 H11 H12
          go_upto_region 23 with fail
          generalize w9 = wB at *
          have b0 := H8b.out.cell (i := 0) rfl
          have b1 := H8b.out.cell (i := 1) rfl
          have m4 := H11b.out.cell (i := 4) rfl
          have m5 := H11b.out.cell (i := 5) rfl
          have m0 := H12b.out.cell (i := 0) rfl
          go_cut [107] from 21 to 159 (fun u wx => u = .bool false ∧ Hid (Gr wB wx))
          case first =>
            by_cases hk : rk = 4
            · obtain ⟨hc3, hpc, hpn⟩ := HACC.out hk
              subst hk
              have HQC := Lib.hid hpc
              have HQN := Lib.hid hpn
              have HC2 := Lib.hid (fun w => compareB_any C N a.pc a.pn w)
              have HC3 := Lib.hid hc3
              clear hc3 hpc hpn
              generalize cmpB C N a.pc a.pn = z2 at *
              refine wp_region_held_drew (S := (fun w9 => Gr wB w9 ∧ w9.cell? ⟨p12, 0, none⟩ = some (.int .i64 4) ∧ w9.cell? ⟨p11, 4, none⟩ = some (.int .u64 C) ∧ w9.cell? ⟨p11, 5, none⟩ = some (.int .i64 N) ∧ w9.cell? ⟨p8, 0, none⟩ = some (.int .u64 a.pc) ∧ w9.cell? ⟨p8, 1, none⟩ = some (.int .i64 a.pn))) (by kernel_rfl) ?invb (fun h0 => ?_)
              case invb => ((try dsimp only); (exact ⟨(by first | exact Gr.refl _ | exact (Gr.refl _).drew), m0, m4, m5, b0, b1⟩))
              refine wpAnyH_take (i := 0) (oi := { dst := some 91, op := Go.Op.fieldAddr 30 (Go.Operand.tmp 12) 0, type := 0, pos := "law.go:139", after := #[], guard := none }) (v := ?vb1) rfl (by kernel_rfl) (by kernel_rfl) (by kernel_rfl) (fun _ _ _ h => h) (Or.inl ⟨by rfl, ?rb1⟩) (by assumption) ?_
              case rb1 => (intro w hSw; (try dsimp only at hSw); (go_simp <;> with_reducible rfl))
              try simp only [Act.put, List.setIfInBounds_toArray, List.set_cons_zero, List.set_cons_succ]
              refine wpAnyH_take (i := 1) (oi := { dst := some 92, op := Go.Op.load 3 (Go.Operand.tmp 91), type := 3, pos := "law.go:139", after := #[{ on := 0, ground := Go.Ground.data }], guard := none }) (v := ?vb2) rfl (by kernel_rfl) (by kernel_rfl) (by kernel_rfl) (fun _ _ _ h => h) (Or.inl ⟨by rfl, ?rb2⟩) (by assumption) ?_
              case rb2 => (intro w hSw; (try dsimp only at hSw); (go_simp <;> with_reducible rfl))
              try simp only [Act.put, List.setIfInBounds_toArray, List.set_cons_zero, List.set_cons_succ]
              refine wpAnyH_take (i := 2) (oi := { dst := some 93, op := Go.Op.binOp Go.BinOp.eql 3 (Go.Operand.tmp 92) (Go.Operand.const (Go.Value.int Go.IntKind.i64 4)) 3, type := 4, pos := "law.go:139", after := #[{ on := 1, ground := Go.Ground.data }], guard := none }) (v := ?vb3) rfl (by kernel_rfl) (by kernel_rfl) (by kernel_rfl) (fun _ _ _ h => h) (Or.inl ⟨by rfl, ?rb3⟩) (by assumption) ?_
              case rb3 => (intro w hSw; (try dsimp only at hSw); (go_simp <;> with_reducible rfl))
              try simp only [Act.put, List.setIfInBounds_toArray, List.set_cons_zero, List.set_cons_succ]
              refine wpAnyH_take (i := 3) (oi := { dst := some 94, op := Go.Op.move (Go.Operand.tmp 93), type := 4, pos := "law.go:139", after := #[{ on := 2, ground := Go.Ground.data }], guard := none }) (v := ?vb4) rfl (by kernel_rfl) (by kernel_rfl) (by kernel_rfl) (fun _ _ _ h => h) (Or.inl ⟨by rfl, ?rb4⟩) (by assumption) ?_
              case rb4 => (intro w hSw; (try dsimp only at hSw); (go_simp <;> with_reducible rfl))
              try simp only [Act.put, List.setIfInBounds_toArray, List.set_cons_zero, List.set_cons_succ]
              refine wpAnyH_take (i := 4) (oi := { dst := some 95, op := Go.Op.fieldAddr 30 (Go.Operand.tmp 11) 4, type := 0, pos := "law.go:139", after := #[{ on := 3, ground := Go.Ground.guard }], guard := some (3, true) }) (v := ?vb5) rfl (by kernel_rfl) (by kernel_rfl) (by kernel_rfl) (fun _ _ _ h => h) (Or.inl ⟨by rfl, ?rb5⟩) (by assumption) ?_
              case rb5 => (intro w hSw; (try dsimp only at hSw); (go_simp <;> with_reducible rfl))
              try simp only [Act.put, List.setIfInBounds_toArray, List.set_cons_zero, List.set_cons_succ]
              refine wpAnyH_take (i := 5) (oi := { dst := some 96, op := Go.Op.load 27 (Go.Operand.tmp 95), type := 27, pos := "law.go:139", after := #[{ on := 4, ground := Go.Ground.data }, { on := 3, ground := Go.Ground.guard }], guard := some (3, true) }) (v := ?vb6) rfl (by kernel_rfl) (by kernel_rfl) (by kernel_rfl) (fun _ _ _ h => h) (Or.inl ⟨by rfl, ?rb6⟩) (by assumption) ?_
              case rb6 => (intro w hSw; (try dsimp only at hSw); (go_simp <;> with_reducible rfl))
              try simp only [Act.put, List.setIfInBounds_toArray, List.set_cons_zero, List.set_cons_succ]
              refine wpAnyH_take (i := 6) (oi := { dst := some 97, op := Go.Op.load 27 (Go.Operand.tmp 8), type := 27, pos := "law.go:139", after := #[{ on := 3, ground := Go.Ground.guard }], guard := some (3, true) }) (v := ?vb7) rfl (by kernel_rfl) (by kernel_rfl) (by kernel_rfl) (fun _ _ _ h => h) (Or.inl ⟨by rfl, ?rb7⟩) (by assumption) ?_
              case rb7 => (intro w hSw; (try dsimp only at hSw); (go_simp <;> with_reducible rfl))
              try simp only [Act.put, List.setIfInBounds_toArray, List.set_cons_zero, List.set_cons_succ]
              refine wpAnyH_ready (rs := [7]) (by kernel_rfl) (by simp) ?_
              refine AllReadyH.cons (o := { dst := some 98, op := Go.Op.call { callee := Go.Callee.value (Go.Operand.func 23), args := #[Go.Operand.tmp 96, Go.Operand.tmp 97], argTypes := #[27, 27] }, type := 3, pos := "law.go:139", after := #[{ on := 5, ground := Go.Ground.data }, { on := 6, ground := Go.Ground.data }, { on := 3, ground := Go.Ground.chain }, { on := 3, ground := Go.Ground.guard }], guard := some (3, true) }) rfl (fun K hK => ?_) AllReadyH.nil
              go_simp
              go_at_call 23
              refine (HC2.out _).mono ?_
              rintro e w9 ⟨rfl, hg9⟩
              first | refine hK.out _ _ ?sb8 (fun h8 => ?_) | (go_wp2_with fail; refine hK.out _ _ ?sb8 (fun h8 => ?_))
              case sb8 => ((try dsimp only); (exact ⟨h0.1.trans hg9, hg9.cell h0.2.1, hg9.cell h0.2.2.1, hg9.cell h0.2.2.2.1, hg9.cell h0.2.2.2.2.1, hg9.cell h0.2.2.2.2.2⟩))
              clear hK K h0
              try simp only [Act.put, List.setIfInBounds_toArray, List.set_cons_zero, List.set_cons_succ]
              refine wpAnyH_take (i := 8) (oi := { dst := some 99, op := Go.Op.binOp Go.BinOp.lss 3 (Go.Operand.tmp 98) (Go.Operand.const (Go.Value.int Go.IntKind.i64 0)) 3, type := 4, pos := "law.go:139", after := #[{ on := 7, ground := Go.Ground.data }, { on := 3, ground := Go.Ground.guard }], guard := some (3, true) }) (v := (.bool false)) rfl (by kernel_rfl) (by kernel_rfl) (by kernel_rfl) (fun _ _ _ h => h) (Or.inl ⟨by rfl, ?rb9⟩) (by assumption) ?_
              case rb9 => (intro w hSw; (try dsimp only at hSw); go_simp; all_goals (have := HC3.out; first | omega | (simp; omega)))
              try simp only [Act.put, List.setIfInBounds_toArray, List.set_cons_zero, List.set_cons_succ]
              refine wpAnyH_take (i := 9) (oi := { dst := some 100, op := Go.Op.move (Go.Operand.tmp 99), type := 4, pos := "law.go:139", after := #[{ on := 8, ground := Go.Ground.data }, { on := 7, ground := Go.Ground.chain }, { on := 3, ground := Go.Ground.guard }], guard := some (3, true) }) (v := ?vb10) rfl (by kernel_rfl) (by kernel_rfl) (by kernel_rfl) (fun _ _ _ h => h) (Or.inl ⟨by rfl, ?rb10⟩) (by assumption) ?_
              case rb10 => (intro w hSw; (try dsimp only at hSw); (go_simp <;> with_reducible rfl))
              try simp only [Act.put, List.setIfInBounds_toArray, List.set_cons_zero, List.set_cons_succ]
              refine wpAnyH_take (i := 10) (oi := { dst := some 101, op := Go.Op.move (Go.Operand.tmp 5), type := 23, pos := "law.go:139", after := #[{ on := 9, ground := Go.Ground.guard }], guard := some (9, false) }) (v := ?vb11) rfl (by kernel_rfl) (by kernel_rfl) (by kernel_rfl) (fun _ _ _ h => h) (Or.inl ⟨by rfl, ?rb11⟩) (by assumption) ?_
              case rb11 => (intro w hSw; (try dsimp only at hSw); (go_simp <;> with_reducible rfl))
              try simp only [Act.put, List.setIfInBounds_toArray, List.set_cons_zero, List.set_cons_succ]
              refine wpAnyH_take (i := 12) (oi := { dst := some 103, op := Go.Op.fieldAddr 30 (Go.Operand.tmp 11) 4, type := 0, pos := "law.go:139", after := #[{ on := 9, ground := Go.Ground.guard }], guard := some (9, false) }) (v := ?vb12) rfl (by kernel_rfl) (by kernel_rfl) (by kernel_rfl) (fun _ _ _ h => h) (Or.inl ⟨by rfl, ?rb12⟩) (by assumption) ?_
              case rb12 => (intro w hSw; (try dsimp only at hSw); (go_simp <;> with_reducible rfl))
              try simp only [Act.put, List.setIfInBounds_toArray, List.set_cons_zero, List.set_cons_succ]
              refine wpAnyH_take (i := 13) (oi := { dst := some 104, op := Go.Op.load 27 (Go.Operand.tmp 103), type := 27, pos := "law.go:139", after := #[{ on := 12, ground := Go.Ground.data }, { on := 9, ground := Go.Ground.guard }], guard := some (9, false) }) (v := ?vb13) rfl (by kernel_rfl) (by kernel_rfl) (by kernel_rfl) (fun _ _ _ h => h) (Or.inl ⟨by rfl, ?rb13⟩) (by assumption) ?_
              case rb13 => (intro w hSw; (try dsimp only at hSw); (go_simp <;> with_reducible rfl))
              try simp only [Act.put, List.setIfInBounds_toArray, List.set_cons_zero, List.set_cons_succ]
              refine wpAnyH_ready (rs := [11]) (by kernel_rfl) (by simp) ?_
              refine AllReadyH.cons (o := { dst := some 102, op := Go.Op.call { callee := Go.Callee.value (Go.Operand.func 16), args := #[Go.Operand.tmp 101], argTypes := #[23] }, type := 27, pos := "law.go:139", after := #[{ on := 10, ground := Go.Ground.data }, { on := 9, ground := Go.Ground.chain }, { on := 9, ground := Go.Ground.guard }], guard := some (9, false) }) rfl (fun K hK => ?_) AllReadyH.nil
              go_simp
              go_at_call 16
              refine (show Calls Try.prog 16 #[.pointer (some ⟨pb, 0, none⟩)] _ fun e w9 => e = .returned (.agg #[.int .u64 C, .int .i64 N]) ∧ Gr _ w9 from by have := promised_st (HB.out.gr h8.1); rw [HQC.out, HQN.out] at this; exact this).mono ?_
              rintro e w9 ⟨rfl, hg9⟩
              first | refine hK.out _ _ ?sb14 (fun h14 => ?_) | (go_wp2_with fail; refine hK.out _ _ ?sb14 (fun h14 => ?_))
              case sb14 => ((try dsimp only); (exact ⟨h8.1.trans hg9, hg9.cell h8.2.1, hg9.cell h8.2.2.1, hg9.cell h8.2.2.2.1, hg9.cell h8.2.2.2.2.1, hg9.cell h8.2.2.2.2.2⟩))
              clear hK K h8
              try simp only [Act.put, List.setIfInBounds_toArray, List.set_cons_zero, List.set_cons_succ]
              refine wpAnyH_take (i := 14) (oi := { dst := some 105, op := Go.Op.binOp Go.BinOp.neq 27 (Go.Operand.tmp 102) (Go.Operand.tmp 104) 27, type := 4, pos := "law.go:139", after := #[{ on := 11, ground := Go.Ground.data }, { on := 13, ground := Go.Ground.data }, { on := 9, ground := Go.Ground.guard }], guard := some (9, false) }) (v := (.bool false)) rfl (by kernel_rfl) (by kernel_rfl) (by kernel_rfl) (fun _ _ _ h => h) (Or.inl ⟨by rfl, ?rb15⟩) (by assumption) ?_
              case rb15 => (intro w hSw; (try dsimp only at hSw); go_simp; all_goals simp)
              try simp only [Act.put, List.setIfInBounds_toArray, List.set_cons_zero, List.set_cons_succ]
              refine wpAnyH_take (i := 15) (oi := { dst := some 106, op := Go.Op.pick (Go.Operand.tmp 100) (Go.Operand.const (Go.Value.bool true)) (Go.Operand.tmp 105), type := 4, pos := "law.go:139", after := #[{ on := 9, ground := Go.Ground.data }, { on := 14, ground := Go.Ground.data }, { on := 3, ground := Go.Ground.guard }], guard := some (3, true) }) (v := ?vb16) rfl (by kernel_rfl) (by kernel_rfl) (by kernel_rfl) (fun _ _ _ h => h) (Or.inl ⟨by rfl, ?rb16⟩) (by assumption) ?_
              case rb16 => (intro w hSw; (try dsimp only at hSw); (go_simp <;> with_reducible rfl))
              try simp only [Act.put, List.setIfInBounds_toArray, List.set_cons_zero, List.set_cons_succ]
              refine wpAnyH_take (i := 16) (oi := { dst := some 107, op := Go.Op.pick (Go.Operand.tmp 94) (Go.Operand.tmp 106) (Go.Operand.const (Go.Value.bool false)), type := 4, pos := "law.go:139", after := #[{ on := 3, ground := Go.Ground.data }, { on := 15, ground := Go.Ground.data }], guard := none }) (v := ?vb17) rfl (by kernel_rfl) (by kernel_rfl) (by kernel_rfl) (fun _ _ _ h => h) (Or.inl ⟨by rfl, ?rb17⟩) (by assumption) ?_
              case rb17 => (intro w hSw; (try dsimp only at hSw); (go_simp <;> with_reducible rfl))
              try simp only [Act.put, List.setIfInBounds_toArray, List.set_cons_zero, List.set_cons_succ]
              refine wpAnyH_done (by kernel_rfl) ?_ _
              have QG := Lib.hid h14.1
              clear h14
              go_wp2
              go_meet
              exact ⟨rfl, QG⟩
            · have HK4 := Lib.hid hk
              clear hk
              refine wp_region_held_drew (S := (fun w9 => Gr wB w9 ∧ w9.cell? ⟨p12, 0, none⟩ = some (.int .i64 rk) ∧ w9.cell? ⟨p11, 4, none⟩ = some (.int .u64 C) ∧ w9.cell? ⟨p11, 5, none⟩ = some (.int .i64 N) ∧ w9.cell? ⟨p8, 0, none⟩ = some (.int .u64 a.pc) ∧ w9.cell? ⟨p8, 1, none⟩ = some (.int .i64 a.pn))) (by kernel_rfl) ?invc (fun h0 => ?_)
              case invc => ((try dsimp only); (exact ⟨(by first | exact Gr.refl _ | exact (Gr.refl _).drew), m0, m4, m5, b0, b1⟩))
              refine wpAnyH_take (i := 0) (oi := { dst := some 91, op := Go.Op.fieldAddr 30 (Go.Operand.tmp 12) 0, type := 0, pos := "law.go:139", after := #[], guard := none }) (v := ?vc1) rfl (by kernel_rfl) (by kernel_rfl) (by kernel_rfl) (fun _ _ _ h => h) (Or.inl ⟨by rfl, ?rc1⟩) (by assumption) ?_
              case rc1 => (intro w hSw; (try dsimp only at hSw); (go_simp <;> with_reducible rfl))
              try simp only [Act.put, List.setIfInBounds_toArray, List.set_cons_zero, List.set_cons_succ]
              refine wpAnyH_take (i := 1) (oi := { dst := some 92, op := Go.Op.load 3 (Go.Operand.tmp 91), type := 3, pos := "law.go:139", after := #[{ on := 0, ground := Go.Ground.data }], guard := none }) (v := ?vc2) rfl (by kernel_rfl) (by kernel_rfl) (by kernel_rfl) (fun _ _ _ h => h) (Or.inl ⟨by rfl, ?rc2⟩) (by assumption) ?_
              case rc2 => (intro w hSw; (try dsimp only at hSw); (go_simp <;> with_reducible rfl))
              try simp only [Act.put, List.setIfInBounds_toArray, List.set_cons_zero, List.set_cons_succ]
              refine wpAnyH_take (i := 2) (oi := { dst := some 93, op := Go.Op.binOp Go.BinOp.eql 3 (Go.Operand.tmp 92) (Go.Operand.const (Go.Value.int Go.IntKind.i64 4)) 3, type := 4, pos := "law.go:139", after := #[{ on := 1, ground := Go.Ground.data }], guard := none }) (v := (.bool false)) rfl (by kernel_rfl) (by kernel_rfl) (by kernel_rfl) (fun _ _ _ h => h) (Or.inl ⟨by rfl, ?rc3⟩) (by assumption) ?_
              case rc3 => (intro w hSw; (try dsimp only at hSw); go_simp; all_goals simp [HK4.out])
              try simp only [Act.put, List.setIfInBounds_toArray, List.set_cons_zero, List.set_cons_succ]
              refine wpAnyH_take (i := 3) (oi := { dst := some 94, op := Go.Op.move (Go.Operand.tmp 93), type := 4, pos := "law.go:139", after := #[{ on := 2, ground := Go.Ground.data }], guard := none }) (v := ?vc4) rfl (by kernel_rfl) (by kernel_rfl) (by kernel_rfl) (fun _ _ _ h => h) (Or.inl ⟨by rfl, ?rc4⟩) (by assumption) ?_
              case rc4 => (intro w hSw; (try dsimp only at hSw); (go_simp <;> with_reducible rfl))
              try simp only [Act.put, List.setIfInBounds_toArray, List.set_cons_zero, List.set_cons_succ]
              refine wpAnyH_take (i := 4) (oi := { dst := some 95, op := Go.Op.fieldAddr 30 (Go.Operand.tmp 11) 4, type := 0, pos := "law.go:139", after := #[{ on := 3, ground := Go.Ground.guard }], guard := some (3, true) }) (v := undef) rfl (by kernel_rfl) (by kernel_rfl) (by kernel_rfl) (fun _ _ _ h => h) (Or.inr ⟨by rfl, rfl⟩) (by assumption) ?_
              try simp only [Act.put, List.setIfInBounds_toArray, List.set_cons_zero, List.set_cons_succ]
              refine wpAnyH_take (i := 5) (oi := { dst := some 96, op := Go.Op.load 27 (Go.Operand.tmp 95), type := 27, pos := "law.go:139", after := #[{ on := 4, ground := Go.Ground.data }, { on := 3, ground := Go.Ground.guard }], guard := some (3, true) }) (v := undef) rfl (by kernel_rfl) (by kernel_rfl) (by kernel_rfl) (fun _ _ _ h => h) (Or.inr ⟨by rfl, rfl⟩) (by assumption) ?_
              try simp only [Act.put, List.setIfInBounds_toArray, List.set_cons_zero, List.set_cons_succ]
              refine wpAnyH_take (i := 6) (oi := { dst := some 97, op := Go.Op.load 27 (Go.Operand.tmp 8), type := 27, pos := "law.go:139", after := #[{ on := 3, ground := Go.Ground.guard }], guard := some (3, true) }) (v := undef) rfl (by kernel_rfl) (by kernel_rfl) (by kernel_rfl) (fun _ _ _ h => h) (Or.inr ⟨by rfl, rfl⟩) (by assumption) ?_
              try simp only [Act.put, List.setIfInBounds_toArray, List.set_cons_zero, List.set_cons_succ]
              refine wpAnyH_take (i := 7) (oi := { dst := some 98, op := Go.Op.call { callee := Go.Callee.value (Go.Operand.func 23), args := #[Go.Operand.tmp 96, Go.Operand.tmp 97], argTypes := #[27, 27] }, type := 3, pos := "law.go:139", after := #[{ on := 5, ground := Go.Ground.data }, { on := 6, ground := Go.Ground.data }, { on := 3, ground := Go.Ground.chain }, { on := 3, ground := Go.Ground.guard }], guard := some (3, true) }) (v := undef) rfl (by kernel_rfl) (by kernel_rfl) (by kernel_rfl) (fun _ _ _ h => h) (Or.inr ⟨by rfl, rfl⟩) (by assumption) ?_
              try simp only [Act.put, List.setIfInBounds_toArray, List.set_cons_zero, List.set_cons_succ]
              refine wpAnyH_take (i := 8) (oi := { dst := some 99, op := Go.Op.binOp Go.BinOp.lss 3 (Go.Operand.tmp 98) (Go.Operand.const (Go.Value.int Go.IntKind.i64 0)) 3, type := 4, pos := "law.go:139", after := #[{ on := 7, ground := Go.Ground.data }, { on := 3, ground := Go.Ground.guard }], guard := some (3, true) }) (v := undef) rfl (by kernel_rfl) (by kernel_rfl) (by kernel_rfl) (fun _ _ _ h => h) (Or.inr ⟨by rfl, rfl⟩) (by assumption) ?_
              try simp only [Act.put, List.setIfInBounds_toArray, List.set_cons_zero, List.set_cons_succ]
              refine wpAnyH_take (i := 9) (oi := { dst := some 100, op := Go.Op.move (Go.Operand.tmp 99), type := 4, pos := "law.go:139", after := #[{ on := 8, ground := Go.Ground.data }, { on := 7, ground := Go.Ground.chain }, { on := 3, ground := Go.Ground.guard }], guard := some (3, true) }) (v := undef) rfl (by kernel_rfl) (by kernel_rfl) (by kernel_rfl) (fun _ _ _ h => h) (Or.inr ⟨by rfl, rfl⟩) (by assumption) ?_
              try simp only [Act.put, List.setIfInBounds_toArray, List.set_cons_zero, List.set_cons_succ]
              refine wpAnyH_take (i := 10) (oi := { dst := some 101, op := Go.Op.move (Go.Operand.tmp 5), type := 23, pos := "law.go:139", after := #[{ on := 9, ground := Go.Ground.guard }], guard := some (9, false) }) (v := undef) rfl (by kernel_rfl) (by kernel_rfl) (by kernel_rfl) (fun _ _ _ h => h) (Or.inr ⟨by rfl, rfl⟩) (by assumption) ?_
              try simp only [Act.put, List.setIfInBounds_toArray, List.set_cons_zero, List.set_cons_succ]
              refine wpAnyH_take (i := 11) (oi := { dst := some 102, op := Go.Op.call { callee := Go.Callee.value (Go.Operand.func 16), args := #[Go.Operand.tmp 101], argTypes := #[23] }, type := 27, pos := "law.go:139", after := #[{ on := 10, ground := Go.Ground.data }, { on := 9, ground := Go.Ground.chain }, { on := 9, ground := Go.Ground.guard }], guard := some (9, false) }) (v := undef) rfl (by kernel_rfl) (by kernel_rfl) (by kernel_rfl) (fun _ _ _ h => h) (Or.inr ⟨by rfl, rfl⟩) (by assumption) ?_
              try simp only [Act.put, List.setIfInBounds_toArray, List.set_cons_zero, List.set_cons_succ]
              refine wpAnyH_take (i := 12) (oi := { dst := some 103, op := Go.Op.fieldAddr 30 (Go.Operand.tmp 11) 4, type := 0, pos := "law.go:139", after := #[{ on := 9, ground := Go.Ground.guard }], guard := some (9, false) }) (v := undef) rfl (by kernel_rfl) (by kernel_rfl) (by kernel_rfl) (fun _ _ _ h => h) (Or.inr ⟨by rfl, rfl⟩) (by assumption) ?_
              try simp only [Act.put, List.setIfInBounds_toArray, List.set_cons_zero, List.set_cons_succ]
              refine wpAnyH_take (i := 13) (oi := { dst := some 104, op := Go.Op.load 27 (Go.Operand.tmp 103), type := 27, pos := "law.go:139", after := #[{ on := 12, ground := Go.Ground.data }, { on := 9, ground := Go.Ground.guard }], guard := some (9, false) }) (v := undef) rfl (by kernel_rfl) (by kernel_rfl) (by kernel_rfl) (fun _ _ _ h => h) (Or.inr ⟨by rfl, rfl⟩) (by assumption) ?_
              try simp only [Act.put, List.setIfInBounds_toArray, List.set_cons_zero, List.set_cons_succ]
              refine wpAnyH_take (i := 14) (oi := { dst := some 105, op := Go.Op.binOp Go.BinOp.neq 27 (Go.Operand.tmp 102) (Go.Operand.tmp 104) 27, type := 4, pos := "law.go:139", after := #[{ on := 11, ground := Go.Ground.data }, { on := 13, ground := Go.Ground.data }, { on := 9, ground := Go.Ground.guard }], guard := some (9, false) }) (v := undef) rfl (by kernel_rfl) (by kernel_rfl) (by kernel_rfl) (fun _ _ _ h => h) (Or.inr ⟨by rfl, rfl⟩) (by assumption) ?_
              try simp only [Act.put, List.setIfInBounds_toArray, List.set_cons_zero, List.set_cons_succ]
              refine wpAnyH_take (i := 15) (oi := { dst := some 106, op := Go.Op.pick (Go.Operand.tmp 100) (Go.Operand.const (Go.Value.bool true)) (Go.Operand.tmp 105), type := 4, pos := "law.go:139", after := #[{ on := 9, ground := Go.Ground.data }, { on := 14, ground := Go.Ground.data }, { on := 3, ground := Go.Ground.guard }], guard := some (3, true) }) (v := undef) rfl (by kernel_rfl) (by kernel_rfl) (by kernel_rfl) (fun _ _ _ h => h) (Or.inr ⟨by rfl, rfl⟩) (by assumption) ?_
              try simp only [Act.put, List.setIfInBounds_toArray, List.set_cons_zero, List.set_cons_succ]
              refine wpAnyH_take (i := 16) (oi := { dst := some 107, op := Go.Op.pick (Go.Operand.tmp 94) (Go.Operand.tmp 106) (Go.Operand.const (Go.Value.bool false)), type := 4, pos := "law.go:139", after := #[{ on := 3, ground := Go.Ground.data }, { on := 15, ground := Go.Ground.data }], guard := none }) (v := ?vc5) rfl (by kernel_rfl) (by kernel_rfl) (by kernel_rfl) (fun _ _ _ h => h) (Or.inl ⟨by rfl, ?rc5⟩) (by assumption) ?_
              case rc5 => (intro w hSw; (try dsimp only at hSw); (go_simp <;> with_reducible rfl))
              try simp only [Act.put, List.setIfInBounds_toArray, List.set_cons_zero, List.set_cons_succ]
              refine wpAnyH_done (by kernel_rfl) ?_ _
              have QG := Lib.hid h0.1
              clear h0
              go_wp2
              go_meet
              exact ⟨rfl, QG⟩
          case rest =>
            obtain ⟨rfl, hgc⟩ := hcut
            have HBc := Lib.hid (HB.out.gr hgc.out)
            have H7c := Lib.hid (H7b.out.gr hgc.out)
            have H12c := Lib.hid (H12b.out.gr hgc.out)
            clear HB H7b H8b H11b H12b hgc b0 b1 m0 m4 m5
            generalize wc = wC at *
            have d1 := H7c.out.cell (i := 1) rfl
            have d4 := H7c.out.cell (i := 4) rfl
            have m0 := H12c.out.cell (i := 0) rfl
            go_upto_region 25 with fail
            go_cut [131] from 21 to 159 (fun u wx => u = .bool false ∧ wx = wC)
            case first =>
              by_cases h1 : 0 ≤ n0
              · by_cases h2 : n0 = FR
                · have h2' : (n0 != FR) = false := by rw [h2]; simp
                  clear h2
                  go_wp2
                  go_meet
                  exact ⟨by first | rfl | (simp; omega), rfl⟩
                · have h2' : (n0 != FR) = true := bne_iff_ne.2 h2
                  by_cases h3 : NW < a.til
                  · have h4 := HBAR.out h1 h2 h3
                    have h5 : (rk == 2) = false := beq_eq_false_iff_ne.2 h4.1
                    have h6 : (rk == 11) = false := beq_eq_false_iff_ne.2 h4.2
                    clear h4 h2
                    go_wp2
                    go_meet
                    exact ⟨by first | rfl | (simp; omega), rfl⟩
                  · clear h2
                    go_wp2
                    go_meet
                    exact ⟨by first | rfl | (simp; omega), rfl⟩
              · go_wp2
                go_meet
                exact ⟨by first | rfl | (simp; omega), rfl⟩
            case rest =>
              obtain ⟨rfl, rfl⟩ := hcut
              go_wp2_with fail
              refine (holder_st HBc.out HOK.out).mono ?_
              rintro e w10 ⟨rfl, hg10⟩
              have HBd := Lib.hid (HBc.out.gr hg10)
              have d4' := hg10.cell d4
              clear hg10 HBc H7c H12c d1 d4 m0
              generalize a'.to - 1 = n1 at *
              go_upto_region 28 with fail
              go_cut [159] from 21 to 159 (fun u wx => u = .bool false ∧ wx = w10)
              case first =>
                by_cases h0 : n1 = n0
                · have h1 : (n1 != n0) = false := by rw [h0]; simp
                  have h2 : (n1 == n0) = true := by rw [h0]; simp
                  have h3 : ¬ a'.til < a.til := Int.not_lt.2 (HTIL.out h0)
                  clear h0
                  by_cases h4 : 0 ≤ n0
                  · go_wp2
                    go_meet
                    exact ⟨by first | rfl | (simp; omega), rfl⟩
                  · go_wp2
                    go_meet
                    exact ⟨by first | rfl | (simp; omega), rfl⟩
                · have h1 : (n1 != n0) = true := bne_iff_ne.2 h0
                  have h2 : (n1 == n0) = false := beq_eq_false_iff_ne.2 h0
                  by_cases h4 : 0 ≤ n0
                  · have h5 := HOWN.out h4 h0
                    clear h0
                    go_wp2
                    go_meet
                    exact ⟨by first | rfl | (simp; omega), rfl⟩
                  · clear h0
                    go_wp2
                    go_meet
                    exact ⟨by first | rfl | (simp; omega), rfl⟩
              case rest =>
                obtain ⟨rfl, rfl⟩ := hcut
                go_wp2
                go_roundg (60 - (k + 1))
                case measure => omega
                case rel => exact ⟨k + 1, v', a', by omega, by go_num, HBd, HOK⟩
      · have hk8 : ¬ (k : Int) < 60 := by omega
        go_wp2
        go_ret
        exact ⟨rfl, HG1.out.trans HA.out.grown⟩
    · have hk5 : ¬ (k : Int) < (L.length : Int) := by omega
      go_wp2
      go_ret
      exact ⟨rfl, HG1.out.trans HA.out.grown⟩
end Go.Proofs.Ytkihencimbdoiaa
