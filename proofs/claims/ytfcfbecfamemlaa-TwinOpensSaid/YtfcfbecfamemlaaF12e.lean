import Derived.Test.YtfcfbecfamemlaaF12d
import Derived.WalkKit
import Derived.ProofKit
import Derived.LoopTactic
import Derived.Outline
import Derived.WalkSpells
import Derived.WalkLawsBesides
import Derived.Lib.Hide
import Derived.Deep.LoopGhost
import Derived.Deep.QuietTactic
import Derived.BigQuiet
import Derived.ShutString
import Derived.IntWalk
import Derived.Lib.MinMax
import Derived.Laws.StructEq
import Derived.BigQuiet
import Derived.Deep.RegionWith
import Derived.Deep.RegionHeld3
namespace Go.Proofs.Ytfcfbecfamemlaa
open Go.ChangeShapes Go.WideShapes Go.ChangeAt Go.RowKit
open Dk
set_option linter.unusedVariables false
set_option linter.unusedSimpArgs false
theorem two0 (x y : Value) (w : World) : (Instr.index 128 (.agg #[x, y]) (.int .i64 0)).run Try.prog w = .ok x w := by kernel_rfl
theorem two1 (x y : Value) (w : World) : (Instr.index 128 (.agg #[x, y]) (.int .i64 1)).run Try.prog w = .ok y w := by kernel_rfl
set_option maxRecDepth 100000 in
theorem sure_q {b : Nat} {d : D} (k : Nat) (hk : k < 4) (w : World) (h : DkIs w b d) :
    Calls Try.prog 21 #[.pointer (some ⟨b, 0, none⟩), .int .i64 (k : Nat)] w fun e w' => e = .returned (.bool (decide ((d.fs k).now = (d.fs k).sure))) ∧ ∃ m, w' = w.drewN m := by
  have hb : hasB (k : Int) = true := decide_eq_true (by omega)
  have H := Lib.hid (fun w => same11 (by have h9 := has_any (k : Int) w; rw [hb] at h9; exact h9))
  have n0 := h.now k hk
  have s0 := h.sure k hk
  have hk4 : (k : Int) < 4 := by omega
  clear hb h
  generalize (d.fs k).now = s at *
  generalize (d.fs k).sure = t at *
  have hq := toList_beq s t
  generalize decide (s = t) = q at *
  go_enter Try.func21, Try.ntmps21
  go_wp2
  go_quiet ((go_at_call 49; exact Calls.quiet_of_same (H.out _)))
  all_goals
    go_wp2
    go_ret
    exact ⟨rfl, _, rfl⟩
/-- A file is rewritten, unless it has the half for sure. -/
def rstep (Q : D) (k : Nat) (sm : Bool) (s : ByteArray) : D × Nat := if sm = true ∧ (Q.fs k).now = (Q.fs k).sure then (Q, 0) else cput Q k s
def rest2 (Q : D) (ka kb : Nat) (sm : Bool) (s : ByteArray) : D × Nat := if (rstep Q ka true s).2 = 0 then rstep (rstep Q ka true s).1 kb sm s else rstep Q ka true s
theorem rstep_ok {Q : D} (h : Q.Ok) (k : Nat) (sm : Bool) (s : ByteArray) : (rstep Q k sm s).1.Ok := by
  unfold rstep
  split
  · exact h
  · exact cput_ok h _ _
theorem rest2_ok {Q : D} (h : Q.Ok) (ka kb : Nat) (sm : Bool) (s : ByteArray) : (rest2 Q ka kb sm s).1.Ok := by
  unfold rest2
  split
  · exact rstep_ok (rstep_ok h _ _ _) _ _ _
  · exact rstep_ok h _ _ _
theorem rstep_skip {Q : D} {k : Nat} {s : ByteArray} (h : decide ((Q.fs k).now = (Q.fs k).sure) = true) : rstep Q k true s = (Q, 0) := by unfold rstep; rw [if_pos ⟨rfl, of_decide_eq_true h⟩]
theorem rstep_put {Q : D} {k : Nat} {s : ByteArray} (h : decide ((Q.fs k).now = (Q.fs k).sure) = false) : rstep Q k true s = cput Q k s := by unfold rstep; rw [if_neg (fun hh => of_decide_eq_false h hh.2)]
theorem rstep_false (Q : D) (k : Nat) (s : ByteArray) : rstep Q k false s = cput Q k s := by unfold rstep; rw [if_neg (fun hh => by cases hh.1)]
theorem rest2_no {Q Q1 : D} {ka kb q : Nat} {sm : Bool} {s : ByteArray} (h : rstep Q ka true s = (Q1, q)) (hq : q ≠ 0) : rest2 Q ka kb sm s = (Q1, q) := by unfold rest2; rw [h, if_neg hq]
theorem rest2_yes {Q Q1 : D} {ka kb : Nat} {sm : Bool} {s : ByteArray} (h : rstep Q ka true s = (Q1, 0)) : rest2 Q ka kb sm s = rstep Q1 kb sm s := by unfold rest2; rw [h, if_pos rfl]
def RestIs (d : Nat) (Q : D) (ka kb : Nat) (sm : Bool) (s : ByteArray) (w : World) (e : Ending) (w' : World) : Prop := e = .returned (.int .i64 ((rest2 Q ka kb sm s).2 : Nat)) ∧ DkIs w' d (rest2 Q ka kb sm s).1 ∧ Sole d w w'
theorem restIs_mk {d ka kb q : Nat} {Q Q1 : D} {sm : Bool} {s : ByteArray} {w w' : World} (h : rest2 Q ka kb sm s = (Q1, q)) (hd : DkIs w' d Q1) (hs : Sole d w w') : RestIs d Q ka kb sm s w (.returned (.int .i64 (q : Nat))) w' := by
  unfold RestIs; rw [h]; exact ⟨rfl, hd, hs⟩
set_option maxRecDepth 100000 in
set_option maxHeartbeats 1000000 in
theorem restore_none {c v1 : Nat} {t0 t1 : ByteArray} (w : World) : Calls Try.prog 55 #[.pointer (some ⟨c, 0, none⟩), .agg #[.int .u64 0, .string t0, .int .u64 (v1 : Nat), .string t1], .int .i64 0] w fun e w' => e = .returned (.int .i64 0) ∧ Gr w w' := by
  go_enter Try.func55, Try.ntmps55
  go_wp2
  go_ret
  exact ⟨rfl, by first | exact ((Gr.refl _).alloc _).alloc _ | exact (((Gr.refl _).alloc _).alloc _).drew⟩
set_option maxRecDepth 100000 in
set_option maxHeartbeats 2000000 in
theorem restore0 {c d f g v v0 v1 : Nat} {t0 t1 : ByteArray} {Q : D} (sm : Bool) (w : World) (h : DkIs w d Q) (hc : ClIs w c d f v) (hfg : f + 1 = g) (hf : g < 4) (hv : v0 ≠ 0) (hvl : v0 < 18446744073709551616) (ht : t0.size ≤ 600000) (hsm : sm = decide (v0 = v1 ∧ t0 = t1)) :
    Calls Try.prog 55 #[.pointer (some ⟨c, 0, none⟩), .agg #[.int .u64 (v0 : Nat), .string t0, .int .u64 (v1 : Nat), .string t1], .int .i64 0] w (RestIs d Q f g sm (spell v0 t0) w) := by
  have i0 := fun x y w => two0 x y w
  have i1 := fun x y w => two1 x y w
  have e0 : ((v0 : Int) == 0) = false := by simp [hv]
  have CP := Lib.hid (fun i k (Q : D) w (h : DkIs w d Q) (hc : ClIs w c d f v) (hi : f + i = k) (hk : k < 4) => cput_any i k v0 t0 w h hc hi hk hvl ht)
  have HCD := Lib.hid hc.ne
  have k0c := hc.k0
  have k1c := hc.k1
  have hlc := cell_lt k0c
  have hld := cell_lt h.room
  have HC := Lib.hid hc
  have HD := Lib.hid h
  have x1 : (f : Int) + 1 = (g : Int) := by omega
  have xg : IntKind.i64.wrap (g : Int) = (g : Int) := IntWalk.i64_in _ (by omega)
  have xf : IntKind.i64.wrap (f : Int) = (f : Int) := IntWalk.i64_in _ (by omega)
  obtain ⟨s, hs⟩ : ∃ s, spell v0 t0 = s := ⟨_, rfl⟩
  rw [hs]
  have HS := Lib.hid hs
  rw [hs] at CP
  have HSM := Lib.hid hsm
  clear h hc hs hsm
  go_enter Try.func55, Try.ntmps55
  go_wp2
  have gz := ((Gr.refl w).alloc (.cells #[.int .u64 (v0 : Nat), .string t0, .int .u64 (v1 : Nat), .string t1] 109)).alloc (.cells #[.int .u64 (v0 : Nat), .string t0] 106)
  have y0 := ((Gr.refl (w.alloc (.cells #[.int .u64 (v0 : Nat), .string t0, .int .u64 (v1 : Nat), .string t1] 109))).alloc (.cells #[.int .u64 (v0 : Nat), .string t0] 106)).own.1 0 _ rfl
  have y1 := ((Gr.refl (w.alloc (.cells #[.int .u64 (v0 : Nat), .string t0, .int .u64 (v1 : Nat), .string t1] 109))).alloc (.cells #[.int .u64 (v0 : Nat), .string t0] 106)).own.1 1 _ rfl
  have y2 := ((Gr.refl (w.alloc (.cells #[.int .u64 (v0 : Nat), .string t0, .int .u64 (v1 : Nat), .string t1] 109))).alloc (.cells #[.int .u64 (v0 : Nat), .string t0] 106)).own.1 2 _ rfl
  have y3 := ((Gr.refl (w.alloc (.cells #[.int .u64 (v0 : Nat), .string t0, .int .u64 (v1 : Nat), .string t1] 109))).alloc (.cells #[.int .u64 (v0 : Nat), .string t0] 106)).own.1 3 _ rfl
  have hsz : (w.alloc (.cells #[.int .u64 (v0 : Nat), .string t0, .int .u64 (v1 : Nat), .string t1] 109)).heap.size = w.heap.size + 1 := by simp
  have z0 : ((w.alloc (.cells #[.int .u64 (v0 : Nat), .string t0, .int .u64 (v1 : Nat), .string t1] 109)).alloc (.cells #[.int .u64 (v0 : Nat), .string t0] 106)).cell? ⟨w.heap.size + 1, 0, none⟩ = some (.int .u64 (v0 : Nat)) := new_cell hsz.symm rfl
  have z1 : ((w.alloc (.cells #[.int .u64 (v0 : Nat), .string t0, .int .u64 (v1 : Nat), .string t1] 109)).alloc (.cells #[.int .u64 (v0 : Nat), .string t0] 106)).cell? ⟨w.heap.size + 1, 1, none⟩ = some (.string t0) := new_cell hsz.symm rfl
  have HY : Hid (_ ∧ _ ∧ _ ∧ _ ∧ _ ∧ _) := Lib.hid ⟨y0, y1, y2, y3, z0, z1⟩
  have HHD := Lib.hid (show w.heap.size ≠ d ∧ w.heap.size + 1 ≠ d by omega)
  have HDZ := Lib.hid (HD.out.gr gz)
  have HCZ := Lib.hid (HC.out.gr gz)
  have HGZ := Lib.hid gz
  clear y0 y1 y2 y3 z0 z1 gz k0c k1c hlc hld hsz
  generalize (w.alloc (.cells #[.int .u64 (v0 : Nat), .string t0, .int .u64 (v1 : Nat), .string t1] 109)).alloc (.cells #[.int .u64 (v0 : Nat), .string t0] 106) = wz at *
  generalize w.heap.size + 1 = wb at *
  generalize w.heap.size = xb at *
  obtain ⟨Q1, q1, hq1⟩ : ∃ Q1 q1, rstep Q f true s = (Q1, q1) := ⟨_, _, rfl⟩
  obtain ⟨Q2, q2, hq2⟩ : ∃ Q2 q2, rstep Q1 g sm s = (Q2, q2) := ⟨_, _, rfl⟩
  have E1 := Lib.hid hq1
  have E2 := Lib.hid hq2
  clear hq1 hq2
  go_loopw [21] (fun i wr => ∃ (k : Nat), k ≤ 2 ∧ i = .int .i64 (k : Nat) ∧ Hid ((k = 0 ∧ DkIs wr d Q) ∨ (k = 1 ∧ q1 = 0 ∧ DkIs wr d Q1) ∨ (k = 2 ∧ q1 = 0 ∧ q2 = 0 ∧ DkIs wr d Q2)) ∧ Hid (ClIs wr c d f v) ∧ Hid (Sole d wz wr)) (fun i _ => 2 - (intOf i).toNat)
  case atStart => exact ⟨0, by omega, rfl, Lib.hid (.inl ⟨rfl, HDZ.out⟩), HCZ.out, Lib.hid (Sole.refl _ _)⟩
  case round =>
    obtain ⟨k, hk, rfl, HW, HCr, HDr⟩ := hrel
    have y0 := HDr.out.cell HHD.out.1 HY.out.1
    have y1 := HDr.out.cell HHD.out.1 HY.out.2.1
    have y2 := HDr.out.cell HHD.out.1 HY.out.2.2.1
    have y3 := HDr.out.cell HHD.out.1 HY.out.2.2.2.1
    have z0 := HDr.out.cell HHD.out.2 HY.out.2.2.2.2.1
    have z1 := HDr.out.cell HHD.out.2 HY.out.2.2.2.2.2
    have k0 := HCr.out.k0
    have k1 := HCr.out.k1
    rcases HW.out with ⟨rfl, hd⟩ | ⟨rfl, h1, hd⟩ | ⟨rfl, h1, h2, hd⟩
    · skip
      obtain ⟨qs, hqs⟩ : ∃ qs, decide ((Q.fs f).now = (Q.fs f).sure) = qs := ⟨_, rfl⟩
      have SU := Lib.hid (fun n => sure_q f (by omega) (wr.drewN n) (hd.gr ((Gr.refl _).drewN n)))
      rw [hqs] at SU
      have HQS := Lib.hid hqs
      clear hqs HW
      cases qs
      · go_wp2
        go_quiet ((go_at_call 21; exact Calls.quiet_of (SU.out _)))
        all_goals
          have HD1 := Lib.hid (hd.gr ((Gr.refl wr).drewN nq))
          have HC1 := Lib.hid (HCr.out.gr ((Gr.refl wr).drewN nq))
          have HS1 := Lib.hid (HDr.out.trans (Sole.of_gr ((Gr.refl wr).drewN nq)))
          clear hd SU
          go_wp2_with fail
          refine (CP.out 0 f Q _ HD1.out HC1.out (by omega) (by omega)).mono ?_
          rintro e w5 ⟨rfl, hd5, hs5⟩
          have EW := Lib.hid (show cput Q f s = (Q1, q1) from (rstep_put HQS.out).symm.trans E1.out)
          rw [EW.out]
          rw [EW.out] at hd5
          have HD5 := Lib.hid hd5
          have HS5 := Lib.hid (HS1.out.trans hs5)
          have HC5 := Lib.hid (HC1.out.sole hs5 HCD.out)
          clear hd5 hs5 y0 y1 y2 y3 z0 z1 k0 k1
          by_cases h0 : q1 = 0
          · subst h0
            go_wp2
            go_roundw
            case rel => exact ⟨1, by omega, rfl, Lib.hid (.inr (.inl ⟨rfl, by trivial, HD5.out⟩)), HC5, HS5⟩
            case measure => simp [intOf]
          · have t9 : ((q1 : Int) != 0) = true := by simp [h0]
            have E := Lib.hid (rest2_no (kb := g) (sm := sm) E1.out h0)
            clear h0
            go_wp2
            go_ret
            exact restIs_mk E.out HD5.out ((Sole.of_gr HGZ.out).trans HS5.out)
      · have EW := Lib.hid (show (Q, 0) = (Q1, q1) from (rstep_skip (s := s) HQS.out).symm.trans E1.out)
        go_wp2
        go_quiet ((go_at_call 21; exact Calls.quiet_of (SU.out _)))
        all_goals
          have HD1 := Lib.hid (hd.gr ((Gr.refl wr).drewN nq))
          have HC1 := Lib.hid (HCr.out.gr ((Gr.refl wr).drewN nq))
          have HS1 := Lib.hid (HDr.out.trans (Sole.of_gr ((Gr.refl wr).drewN nq)))
          clear hd SU y0 y1 y2 y3 z0 z1 k0 k1
          go_wp2
          go_roundw
          case rel => exact ⟨1, by omega, rfl, Lib.hid (.inr (.inl ⟨rfl, (congrArg Prod.snd EW.out).symm, (by have := congrArg Prod.fst EW.out; simp only at this; rw [← this]; exact HD1.out)⟩)), HC1, HS1⟩
          case measure => simp [intOf]
    · subst h1
      cases sm
      · have hne := of_decide_eq_false HSM.out.symm
        by_cases hvv : v0 = v1
        · have hnt : ¬ t0 = t1 := fun e => hne ⟨hvv, e⟩
          subst hvv
          have c1 : (t0.toList == t1.toList) = false := by rw [toList_beq]; exact decide_eq_false hnt
          have c2 : (t1.toList == t0.toList) = false := by rw [toList_beq]; exact decide_eq_false (fun e => hnt e.symm)
          clear hne hnt
          clear HW
          go_wp2
          go_quiet (fail)
          all_goals
            have HD1 := Lib.hid (hd.gr ((Gr.refl wr).drewN nq))
            have HC1 := Lib.hid (HCr.out.gr ((Gr.refl wr).drewN nq))
            have HS1 := Lib.hid (HDr.out.trans (Sole.of_gr ((Gr.refl wr).drewN nq)))
            clear hd
            go_wp2_with fail
            refine (CP.out 1 g Q1 _ HD1.out HC1.out (by omega) (by omega)).mono ?_
            rintro e w5 ⟨rfl, hd5, hs5⟩
            have EW := Lib.hid (show cput Q1 g s = (Q2, q2) from (rstep_false _ _ _).symm.trans E2.out)
            rw [EW.out]
            rw [EW.out] at hd5
            have HD5 := Lib.hid hd5
            have HS5 := Lib.hid (HS1.out.trans hs5)
            have HC5 := Lib.hid (HC1.out.sole hs5 HCD.out)
            clear hd5 hs5 y0 y1 y2 y3 z0 z1 k0 k1
            by_cases h0 : q2 = 0
            · subst h0
              go_wp2
              go_roundw
              case rel => exact ⟨2, by omega, rfl, Lib.hid (.inr (.inr ⟨rfl, by trivial, by trivial, HD5.out⟩)), HC5, HS5⟩
              case measure => simp [intOf]
            · have t9 : ((q2 : Int) != 0) = true := by simp [h0]
              have E := Lib.hid ((rest2_yes E1.out).trans E2.out)
              clear h0
              go_wp2
              go_ret
              exact restIs_mk E.out HD5.out ((Sole.of_gr HGZ.out).trans HS5.out)
        · have c1 : ((v0 : Int) == (v1 : Int)) = false := by simp; omega
          have c2 : ((v1 : Int) == (v0 : Int)) = false := by simp; omega
          clear hne hvv
          clear HW
          go_wp2
          go_quiet (fail)
          all_goals
            have HD1 := Lib.hid (hd.gr ((Gr.refl wr).drewN nq))
            have HC1 := Lib.hid (HCr.out.gr ((Gr.refl wr).drewN nq))
            have HS1 := Lib.hid (HDr.out.trans (Sole.of_gr ((Gr.refl wr).drewN nq)))
            clear hd
            go_wp2_with fail
            refine (CP.out 1 g Q1 _ HD1.out HC1.out (by omega) (by omega)).mono ?_
            rintro e w5 ⟨rfl, hd5, hs5⟩
            have EW := Lib.hid (show cput Q1 g s = (Q2, q2) from (rstep_false _ _ _).symm.trans E2.out)
            rw [EW.out]
            rw [EW.out] at hd5
            have HD5 := Lib.hid hd5
            have HS5 := Lib.hid (HS1.out.trans hs5)
            have HC5 := Lib.hid (HC1.out.sole hs5 HCD.out)
            clear hd5 hs5 y0 y1 y2 y3 z0 z1 k0 k1
            by_cases h0 : q2 = 0
            · subst h0
              go_wp2
              go_roundw
              case rel => exact ⟨2, by omega, rfl, Lib.hid (.inr (.inr ⟨rfl, by trivial, by trivial, HD5.out⟩)), HC5, HS5⟩
              case measure => simp [intOf]
            · have t9 : ((q2 : Int) != 0) = true := by simp [h0]
              have E := Lib.hid ((rest2_yes E1.out).trans E2.out)
              clear h0
              go_wp2
              go_ret
              exact restIs_mk E.out HD5.out ((Sole.of_gr HGZ.out).trans HS5.out)
      · obtain ⟨e8, e9⟩ := of_decide_eq_true HSM.out.symm
        subst e8 e9
        obtain ⟨qs, hqs⟩ : ∃ qs, decide ((Q1.fs g).now = (Q1.fs g).sure) = qs := ⟨_, rfl⟩
        have SU := Lib.hid (fun n => sure_q g (by omega) (wr.drewN n) (hd.gr ((Gr.refl _).drewN n)))
        rw [hqs] at SU
        have HQS := Lib.hid hqs
        clear hqs HW
        cases qs
        · go_wp2
          go_quiet ((go_at_call 21; exact Calls.quiet_of (SU.out _)))
          all_goals
            have HD1 := Lib.hid (hd.gr ((Gr.refl wr).drewN nq))
            have HC1 := Lib.hid (HCr.out.gr ((Gr.refl wr).drewN nq))
            have HS1 := Lib.hid (HDr.out.trans (Sole.of_gr ((Gr.refl wr).drewN nq)))
            clear hd SU
            go_wp2_with fail
            refine (CP.out 1 g Q1 _ HD1.out HC1.out (by omega) (by omega)).mono ?_
            rintro e w5 ⟨rfl, hd5, hs5⟩
            have EW := Lib.hid (show cput Q1 g s = (Q2, q2) from (rstep_put HQS.out).symm.trans E2.out)
            rw [EW.out]
            rw [EW.out] at hd5
            have HD5 := Lib.hid hd5
            have HS5 := Lib.hid (HS1.out.trans hs5)
            have HC5 := Lib.hid (HC1.out.sole hs5 HCD.out)
            clear hd5 hs5 y0 y1 y2 y3 z0 z1 k0 k1
            by_cases h0 : q2 = 0
            · subst h0
              go_wp2
              go_roundw
              case rel => exact ⟨2, by omega, rfl, Lib.hid (.inr (.inr ⟨rfl, by trivial, by trivial, HD5.out⟩)), HC5, HS5⟩
              case measure => simp [intOf]
            · have t9 : ((q2 : Int) != 0) = true := by simp [h0]
              have E := Lib.hid ((rest2_yes E1.out).trans E2.out)
              clear h0
              go_wp2
              go_ret
              exact restIs_mk E.out HD5.out ((Sole.of_gr HGZ.out).trans HS5.out)
        · have EW := Lib.hid (show (Q1, 0) = (Q2, q2) from (rstep_skip (s := s) HQS.out).symm.trans E2.out)
          go_wp2
          go_quiet ((go_at_call 21; exact Calls.quiet_of (SU.out _)))
          all_goals
            have HD1 := Lib.hid (hd.gr ((Gr.refl wr).drewN nq))
            have HC1 := Lib.hid (HCr.out.gr ((Gr.refl wr).drewN nq))
            have HS1 := Lib.hid (HDr.out.trans (Sole.of_gr ((Gr.refl wr).drewN nq)))
            clear hd SU y0 y1 y2 y3 z0 z1 k0 k1
            go_wp2
            go_roundw
            case rel => exact ⟨2, by omega, rfl, Lib.hid (.inr (.inr ⟨rfl, by trivial, (congrArg Prod.snd EW.out).symm, (by have := congrArg Prod.fst EW.out; simp only at this; rw [← this]; exact HD1.out)⟩)), HC1, HS1⟩
            case measure => simp [intOf]
    · subst h1 h2
      have E := Lib.hid ((rest2_yes E1.out).trans E2.out)
      have HD1 := Lib.hid hd
      clear hd HW y0 y1 y2 y3 z0 z1 k0 k1
      go_wp2
      go_ret
      exact restIs_mk E.out HD1.out ((Sole.of_gr HGZ.out).trans HDr.out)
set_option maxRecDepth 100000 in
set_option maxHeartbeats 2000000 in
theorem restore1 {c d f g v v0 v1 : Nat} {t0 t1 : ByteArray} {Q : D} (sm : Bool) (w : World) (h : DkIs w d Q) (hc : ClIs w c d f v) (hfg : f + 1 = g) (hf : g < 4) (hv : v1 ≠ 0) (hvl : v1 < 18446744073709551616) (ht : t1.size ≤ 600000) (hsm : sm = decide (v0 = v1 ∧ t0 = t1)) :
    Calls Try.prog 55 #[.pointer (some ⟨c, 0, none⟩), .agg #[.int .u64 (v0 : Nat), .string t0, .int .u64 (v1 : Nat), .string t1], .int .i64 1] w (RestIs d Q g f sm (spell v1 t1) w) := by
  have i0 := fun x y w => two0 x y w
  have i1 := fun x y w => two1 x y w
  have e0 : ((v1 : Int) == 0) = false := by simp [hv]
  have CP := Lib.hid (fun i k (Q : D) w (h : DkIs w d Q) (hc : ClIs w c d f v) (hi : f + i = k) (hk : k < 4) => cput_any i k v1 t1 w h hc hi hk hvl ht)
  have HCD := Lib.hid hc.ne
  have k0c := hc.k0
  have k1c := hc.k1
  have hlc := cell_lt k0c
  have hld := cell_lt h.room
  have HC := Lib.hid hc
  have HD := Lib.hid h
  have x1 : (f : Int) + 1 = (g : Int) := by omega
  have xg : IntKind.i64.wrap (g : Int) = (g : Int) := IntWalk.i64_in _ (by omega)
  have xf : IntKind.i64.wrap (f : Int) = (f : Int) := IntWalk.i64_in _ (by omega)
  obtain ⟨s, hs⟩ : ∃ s, spell v1 t1 = s := ⟨_, rfl⟩
  rw [hs]
  have HS := Lib.hid hs
  rw [hs] at CP
  have HSM := Lib.hid hsm
  clear h hc hs hsm
  go_enter Try.func55, Try.ntmps55
  go_wp2
  have gz := ((Gr.refl w).alloc (.cells #[.int .u64 (v0 : Nat), .string t0, .int .u64 (v1 : Nat), .string t1] 109)).alloc (.cells #[.int .u64 (v1 : Nat), .string t1] 106)
  have y0 := ((Gr.refl (w.alloc (.cells #[.int .u64 (v0 : Nat), .string t0, .int .u64 (v1 : Nat), .string t1] 109))).alloc (.cells #[.int .u64 (v1 : Nat), .string t1] 106)).own.1 0 _ rfl
  have y1 := ((Gr.refl (w.alloc (.cells #[.int .u64 (v0 : Nat), .string t0, .int .u64 (v1 : Nat), .string t1] 109))).alloc (.cells #[.int .u64 (v1 : Nat), .string t1] 106)).own.1 1 _ rfl
  have y2 := ((Gr.refl (w.alloc (.cells #[.int .u64 (v0 : Nat), .string t0, .int .u64 (v1 : Nat), .string t1] 109))).alloc (.cells #[.int .u64 (v1 : Nat), .string t1] 106)).own.1 2 _ rfl
  have y3 := ((Gr.refl (w.alloc (.cells #[.int .u64 (v0 : Nat), .string t0, .int .u64 (v1 : Nat), .string t1] 109))).alloc (.cells #[.int .u64 (v1 : Nat), .string t1] 106)).own.1 3 _ rfl
  have hsz : (w.alloc (.cells #[.int .u64 (v0 : Nat), .string t0, .int .u64 (v1 : Nat), .string t1] 109)).heap.size = w.heap.size + 1 := by simp
  have z0 : ((w.alloc (.cells #[.int .u64 (v0 : Nat), .string t0, .int .u64 (v1 : Nat), .string t1] 109)).alloc (.cells #[.int .u64 (v1 : Nat), .string t1] 106)).cell? ⟨w.heap.size + 1, 0, none⟩ = some (.int .u64 (v1 : Nat)) := new_cell hsz.symm rfl
  have z1 : ((w.alloc (.cells #[.int .u64 (v0 : Nat), .string t0, .int .u64 (v1 : Nat), .string t1] 109)).alloc (.cells #[.int .u64 (v1 : Nat), .string t1] 106)).cell? ⟨w.heap.size + 1, 1, none⟩ = some (.string t1) := new_cell hsz.symm rfl
  have HY : Hid (_ ∧ _ ∧ _ ∧ _ ∧ _ ∧ _) := Lib.hid ⟨y0, y1, y2, y3, z0, z1⟩
  have HHD := Lib.hid (show w.heap.size ≠ d ∧ w.heap.size + 1 ≠ d by omega)
  have HDZ := Lib.hid (HD.out.gr gz)
  have HCZ := Lib.hid (HC.out.gr gz)
  have HGZ := Lib.hid gz
  clear y0 y1 y2 y3 z0 z1 gz k0c k1c hlc hld hsz
  generalize (w.alloc (.cells #[.int .u64 (v0 : Nat), .string t0, .int .u64 (v1 : Nat), .string t1] 109)).alloc (.cells #[.int .u64 (v1 : Nat), .string t1] 106) = wz at *
  generalize w.heap.size + 1 = wb at *
  generalize w.heap.size = xb at *
  obtain ⟨Q1, q1, hq1⟩ : ∃ Q1 q1, rstep Q g true s = (Q1, q1) := ⟨_, _, rfl⟩
  obtain ⟨Q2, q2, hq2⟩ : ∃ Q2 q2, rstep Q1 f sm s = (Q2, q2) := ⟨_, _, rfl⟩
  have E1 := Lib.hid hq1
  have E2 := Lib.hid hq2
  clear hq1 hq2
  go_loopw [21] (fun i wr => ∃ (k : Nat), k ≤ 2 ∧ i = .int .i64 (k : Nat) ∧ Hid ((k = 0 ∧ DkIs wr d Q) ∨ (k = 1 ∧ q1 = 0 ∧ DkIs wr d Q1) ∨ (k = 2 ∧ q1 = 0 ∧ q2 = 0 ∧ DkIs wr d Q2)) ∧ Hid (ClIs wr c d f v) ∧ Hid (Sole d wz wr)) (fun i _ => 2 - (intOf i).toNat)
  case atStart => exact ⟨0, by omega, rfl, Lib.hid (.inl ⟨rfl, HDZ.out⟩), HCZ.out, Lib.hid (Sole.refl _ _)⟩
  case round =>
    obtain ⟨k, hk, rfl, HW, HCr, HDr⟩ := hrel
    have y0 := HDr.out.cell HHD.out.1 HY.out.1
    have y1 := HDr.out.cell HHD.out.1 HY.out.2.1
    have y2 := HDr.out.cell HHD.out.1 HY.out.2.2.1
    have y3 := HDr.out.cell HHD.out.1 HY.out.2.2.2.1
    have z0 := HDr.out.cell HHD.out.2 HY.out.2.2.2.2.1
    have z1 := HDr.out.cell HHD.out.2 HY.out.2.2.2.2.2
    have k0 := HCr.out.k0
    have k1 := HCr.out.k1
    rcases HW.out with ⟨rfl, hd⟩ | ⟨rfl, h1, hd⟩ | ⟨rfl, h1, h2, hd⟩
    · skip
      obtain ⟨qs, hqs⟩ : ∃ qs, decide ((Q.fs g).now = (Q.fs g).sure) = qs := ⟨_, rfl⟩
      have SU := Lib.hid (fun n => sure_q g (by omega) (wr.drewN n) (hd.gr ((Gr.refl _).drewN n)))
      rw [hqs] at SU
      have HQS := Lib.hid hqs
      clear hqs HW
      cases qs
      · go_wp2
        go_quiet ((go_at_call 21; exact Calls.quiet_of (SU.out _)))
        all_goals
          have HD1 := Lib.hid (hd.gr ((Gr.refl wr).drewN nq))
          have HC1 := Lib.hid (HCr.out.gr ((Gr.refl wr).drewN nq))
          have HS1 := Lib.hid (HDr.out.trans (Sole.of_gr ((Gr.refl wr).drewN nq)))
          clear hd SU
          go_wp2_with fail
          refine (CP.out 1 g Q _ HD1.out HC1.out (by omega) (by omega)).mono ?_
          rintro e w5 ⟨rfl, hd5, hs5⟩
          have EW := Lib.hid (show cput Q g s = (Q1, q1) from (rstep_put HQS.out).symm.trans E1.out)
          rw [EW.out]
          rw [EW.out] at hd5
          have HD5 := Lib.hid hd5
          have HS5 := Lib.hid (HS1.out.trans hs5)
          have HC5 := Lib.hid (HC1.out.sole hs5 HCD.out)
          clear hd5 hs5 y0 y1 y2 y3 z0 z1 k0 k1
          by_cases h0 : q1 = 0
          · subst h0
            go_wp2
            go_roundw
            case rel => exact ⟨1, by omega, rfl, Lib.hid (.inr (.inl ⟨rfl, by trivial, HD5.out⟩)), HC5, HS5⟩
            case measure => simp [intOf]
          · have t9 : ((q1 : Int) != 0) = true := by simp [h0]
            have E := Lib.hid (rest2_no (kb := f) (sm := sm) E1.out h0)
            clear h0
            go_wp2
            go_ret
            exact restIs_mk E.out HD5.out ((Sole.of_gr HGZ.out).trans HS5.out)
      · have EW := Lib.hid (show (Q, 0) = (Q1, q1) from (rstep_skip (s := s) HQS.out).symm.trans E1.out)
        go_wp2
        go_quiet ((go_at_call 21; exact Calls.quiet_of (SU.out _)))
        all_goals
          have HD1 := Lib.hid (hd.gr ((Gr.refl wr).drewN nq))
          have HC1 := Lib.hid (HCr.out.gr ((Gr.refl wr).drewN nq))
          have HS1 := Lib.hid (HDr.out.trans (Sole.of_gr ((Gr.refl wr).drewN nq)))
          clear hd SU y0 y1 y2 y3 z0 z1 k0 k1
          go_wp2
          go_roundw
          case rel => exact ⟨1, by omega, rfl, Lib.hid (.inr (.inl ⟨rfl, (congrArg Prod.snd EW.out).symm, (by have := congrArg Prod.fst EW.out; simp only at this; rw [← this]; exact HD1.out)⟩)), HC1, HS1⟩
          case measure => simp [intOf]
    · subst h1
      cases sm
      · have hne := of_decide_eq_false HSM.out.symm
        by_cases hvv : v0 = v1
        · have hnt : ¬ t0 = t1 := fun e => hne ⟨hvv, e⟩
          subst hvv
          have c1 : (t0.toList == t1.toList) = false := by rw [toList_beq]; exact decide_eq_false hnt
          have c2 : (t1.toList == t0.toList) = false := by rw [toList_beq]; exact decide_eq_false (fun e => hnt e.symm)
          clear hne hnt
          clear HW
          go_wp2
          go_quiet (fail)
          all_goals
            have HD1 := Lib.hid (hd.gr ((Gr.refl wr).drewN nq))
            have HC1 := Lib.hid (HCr.out.gr ((Gr.refl wr).drewN nq))
            have HS1 := Lib.hid (HDr.out.trans (Sole.of_gr ((Gr.refl wr).drewN nq)))
            clear hd
            go_wp2_with fail
            refine (CP.out 0 f Q1 _ HD1.out HC1.out (by omega) (by omega)).mono ?_
            rintro e w5 ⟨rfl, hd5, hs5⟩
            have EW := Lib.hid (show cput Q1 f s = (Q2, q2) from (rstep_false _ _ _).symm.trans E2.out)
            rw [EW.out]
            rw [EW.out] at hd5
            have HD5 := Lib.hid hd5
            have HS5 := Lib.hid (HS1.out.trans hs5)
            have HC5 := Lib.hid (HC1.out.sole hs5 HCD.out)
            clear hd5 hs5 y0 y1 y2 y3 z0 z1 k0 k1
            by_cases h0 : q2 = 0
            · subst h0
              go_wp2
              go_roundw
              case rel => exact ⟨2, by omega, rfl, Lib.hid (.inr (.inr ⟨rfl, by trivial, by trivial, HD5.out⟩)), HC5, HS5⟩
              case measure => simp [intOf]
            · have t9 : ((q2 : Int) != 0) = true := by simp [h0]
              have E := Lib.hid ((rest2_yes E1.out).trans E2.out)
              clear h0
              go_wp2
              go_ret
              exact restIs_mk E.out HD5.out ((Sole.of_gr HGZ.out).trans HS5.out)
        · have c1 : ((v0 : Int) == (v1 : Int)) = false := by simp; omega
          have c2 : ((v1 : Int) == (v0 : Int)) = false := by simp; omega
          clear hne hvv
          clear HW
          go_wp2
          go_quiet (fail)
          all_goals
            have HD1 := Lib.hid (hd.gr ((Gr.refl wr).drewN nq))
            have HC1 := Lib.hid (HCr.out.gr ((Gr.refl wr).drewN nq))
            have HS1 := Lib.hid (HDr.out.trans (Sole.of_gr ((Gr.refl wr).drewN nq)))
            clear hd
            go_wp2_with fail
            refine (CP.out 0 f Q1 _ HD1.out HC1.out (by omega) (by omega)).mono ?_
            rintro e w5 ⟨rfl, hd5, hs5⟩
            have EW := Lib.hid (show cput Q1 f s = (Q2, q2) from (rstep_false _ _ _).symm.trans E2.out)
            rw [EW.out]
            rw [EW.out] at hd5
            have HD5 := Lib.hid hd5
            have HS5 := Lib.hid (HS1.out.trans hs5)
            have HC5 := Lib.hid (HC1.out.sole hs5 HCD.out)
            clear hd5 hs5 y0 y1 y2 y3 z0 z1 k0 k1
            by_cases h0 : q2 = 0
            · subst h0
              go_wp2
              go_roundw
              case rel => exact ⟨2, by omega, rfl, Lib.hid (.inr (.inr ⟨rfl, by trivial, by trivial, HD5.out⟩)), HC5, HS5⟩
              case measure => simp [intOf]
            · have t9 : ((q2 : Int) != 0) = true := by simp [h0]
              have E := Lib.hid ((rest2_yes E1.out).trans E2.out)
              clear h0
              go_wp2
              go_ret
              exact restIs_mk E.out HD5.out ((Sole.of_gr HGZ.out).trans HS5.out)
      · obtain ⟨e8, e9⟩ := of_decide_eq_true HSM.out.symm
        subst e8 e9
        obtain ⟨qs, hqs⟩ : ∃ qs, decide ((Q1.fs f).now = (Q1.fs f).sure) = qs := ⟨_, rfl⟩
        have SU := Lib.hid (fun n => sure_q f (by omega) (wr.drewN n) (hd.gr ((Gr.refl _).drewN n)))
        rw [hqs] at SU
        have HQS := Lib.hid hqs
        clear hqs HW
        cases qs
        · go_wp2
          go_quiet ((go_at_call 21; exact Calls.quiet_of (SU.out _)))
          all_goals
            have HD1 := Lib.hid (hd.gr ((Gr.refl wr).drewN nq))
            have HC1 := Lib.hid (HCr.out.gr ((Gr.refl wr).drewN nq))
            have HS1 := Lib.hid (HDr.out.trans (Sole.of_gr ((Gr.refl wr).drewN nq)))
            clear hd SU
            go_wp2_with fail
            refine (CP.out 0 f Q1 _ HD1.out HC1.out (by omega) (by omega)).mono ?_
            rintro e w5 ⟨rfl, hd5, hs5⟩
            have EW := Lib.hid (show cput Q1 f s = (Q2, q2) from (rstep_put HQS.out).symm.trans E2.out)
            rw [EW.out]
            rw [EW.out] at hd5
            have HD5 := Lib.hid hd5
            have HS5 := Lib.hid (HS1.out.trans hs5)
            have HC5 := Lib.hid (HC1.out.sole hs5 HCD.out)
            clear hd5 hs5 y0 y1 y2 y3 z0 z1 k0 k1
            by_cases h0 : q2 = 0
            · subst h0
              go_wp2
              go_roundw
              case rel => exact ⟨2, by omega, rfl, Lib.hid (.inr (.inr ⟨rfl, by trivial, by trivial, HD5.out⟩)), HC5, HS5⟩
              case measure => simp [intOf]
            · have t9 : ((q2 : Int) != 0) = true := by simp [h0]
              have E := Lib.hid ((rest2_yes E1.out).trans E2.out)
              clear h0
              go_wp2
              go_ret
              exact restIs_mk E.out HD5.out ((Sole.of_gr HGZ.out).trans HS5.out)
        · have EW := Lib.hid (show (Q1, 0) = (Q2, q2) from (rstep_skip (s := s) HQS.out).symm.trans E2.out)
          go_wp2
          go_quiet ((go_at_call 21; exact Calls.quiet_of (SU.out _)))
          all_goals
            have HD1 := Lib.hid (hd.gr ((Gr.refl wr).drewN nq))
            have HC1 := Lib.hid (HCr.out.gr ((Gr.refl wr).drewN nq))
            have HS1 := Lib.hid (HDr.out.trans (Sole.of_gr ((Gr.refl wr).drewN nq)))
            clear hd SU y0 y1 y2 y3 z0 z1 k0 k1
            go_wp2
            go_roundw
            case rel => exact ⟨2, by omega, rfl, Lib.hid (.inr (.inr ⟨rfl, by trivial, (congrArg Prod.snd EW.out).symm, (by have := congrArg Prod.fst EW.out; simp only at this; rw [← this]; exact HD1.out)⟩)), HC1, HS1⟩
            case measure => simp [intOf]
    · subst h1 h2
      have E := Lib.hid ((rest2_yes E1.out).trans E2.out)
      have HD1 := Lib.hid hd
      clear hd HW y0 y1 y2 y3 z0 z1 k0 k1
      go_wp2
      go_ret
      exact restIs_mk E.out HD1.out ((Sole.of_gr HGZ.out).trans HDr.out)
end Go.Proofs.Ytfcfbecfamemlaa
