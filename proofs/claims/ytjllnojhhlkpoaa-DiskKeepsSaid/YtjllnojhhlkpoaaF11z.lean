import Derived.Test.YtjllnojhhlkpoaaF11y
import Derived.Test.YtjllnojhhlkpoaaF11h
import Derived.WalkKit
import Derived.ProofKit
import Derived.LoopTactic
import Derived.Outline
import Derived.WalkSpells
import Derived.WalkLawsBesides
import Derived.Lib.Hide
import Derived.Deep.LoopGhost
import Derived.Deep.QuietTactic
import Derived.BigQuiet
import Derived.ShutString
import Derived.IntWalk
import Derived.Lib.MinMax
import Derived.BigQuiet
import Derived.Deep.RegionWith
import Derived.Deep.RegionHeld3
namespace Go.Proofs.Ytjllnojhhlkpoaa
open Go.ChangeShapes Go.WideShapes Go.ChangeAt Go.RowKit
open Dk
set_option linter.unusedVariables false
set_option linter.unusedSimpArgs false
set_option maxRecDepth 100000 in
set_option maxHeartbeats 2000000 in
theorem lawDo_other {b : Nat} {d : D} (K F N : Int) (S : ByteArray) (a : Option Addr) (n c : Nat) (v : Value) (w : World) (h : DkIs w b d) (hr : RkIs w v d) (hab : rowOf v ≠ b) (hS : S.size ≤ 9223372036854775807) (k0 : K ≠ 0) (k1 : K ≠ 1) (k2 : K ≠ 2) (k3 : K ≠ 3) (k4 : K ≠ 4) (k5 : K ≠ 5) :
    Calls Try.prog 14 #[.pointer (some ⟨b, 0, none⟩), v, .agg #[.int .i64 K, .int .i64 F, .int .i64 N, .string S, .slice a n c]] w (LDo b d v w) := by
  obtain ⟨gb, off, cap, rfl, ha⟩ := hr
  have hgb : gb ≠ b := hab
  have HD := Lib.hid h
  have HA := Lib.hid ha
  have hbl := cell_lt h.room
  have CU := Lib.hid (fun w => cut_any S 60 w hS (by decide))
  have hcs := cutB_le S 60
  generalize cutB S 60 = s at *
  have HRK : Hid (∀ W, Gr w W → RkIs W (.agg #[.slice (some ⟨gb, off, none⟩) 4 cap, .int .i64 (d.room : Nat), .int .i64 ((d.fail : Nat) - 1)]) d) := Lib.hid fun W hW => ⟨gb, off, cap, rfl, HA.out.gr hW⟩
  generalize hr : ((d.room : Nat) : Int) = R at *
  generalize hf : ((d.fail : Nat) : Int) - 1 = fv at *
  have HR := Lib.hid hr
  have HF := Lib.hid hf
  have HNE : Hid (w.heap.size ≠ b ∧ w.heap.size + 1 ≠ b ∧ w.heap.size + 1 + 1 ≠ b) := Lib.hid ⟨by omega, by omega, by omega⟩
  obtain ⟨t4, t5, t6, tg⟩ := three w #[.slice (some ⟨gb, off, none⟩) 4 cap, .int .i64 R, .int .i64 fv] #[.int .i64 K, .int .i64 F, .int .i64 N, .string s, .slice a n c] #[.slice none 0 0, .int .i64 0, .int .i64 0] 28 34 28
  have HB4 := Lib.hid t4
  have HB5 := Lib.hid t5
  have HB6 := Lib.hid t6
  have HG := Lib.hid tg
  clear h ha hr hf t4 t5 t6 tg hbl
  have e0 : (K == 0) = false := by simp; omega
  have e1 : (K == 1) = false := by simp; omega
  have e2 : (K == 2) = false := by simp; omega
  have e3 : (K == 3) = false := by simp; omega
  have e4 : (K == 4) = false := by simp; omega
  have e5 : (K == 5) = false := by simp; omega
  clear k0 k1 k2 k3 k4 k5
  go_enter Try.func14, Try.ntmps14
  go_wp2_with fail
  refine (CU.out _).mono ?_
  rintro e w1 ⟨rfl, rfl⟩
  go_wp2
  obtain ⟨_, _, t6, tg⟩ := three w #[.slice (some ⟨gb, off, none⟩) 4 cap, .int .i64 R, .int .i64 fv] #[.int .i64 K, .int .i64 F, .int .i64 N, .string s, .slice a n c] #[.slice (some ⟨gb, off, none⟩) 4 cap, .int .i64 R, .int .i64 fv] 28 34 28
  have r0 := t6.cell (i := 0) rfl
  have r1 := t6.cell (i := 1) rfl
  have r2 := t6.cell (i := 2) rfl
  refine bodyPost_ret (v := .tuple #[.agg #[.slice (some ⟨gb, off, none⟩) 4 cap, .int .i64 R, .int .i64 fv], .bool true]) (by simp [results, Try.results14, go_sem, r0, r1, r2]; try rfl) rfl ?_
  exact ⟨_, rfl, HD.out.gr tg, ⟨gb, off, cap, by rw [HR.out, HF.out], HA.out.gr tg⟩, Sole.of_gr tg, .inl (by rfl)⟩
set_option maxRecDepth 100000 in
set_option maxHeartbeats 2000000 in
theorem lawDo_fail {b : Nat} {d : D} (F N : Int) (S : ByteArray) (a : Option Addr) (n c : Nat) (v : Value) (w : World) (h : DkIs w b d) (hr : RkIs w v d) (hab : rowOf v ≠ b) (hS : S.size ≤ 9223372036854775807) (wN : (Lit.int .i64 N).wf = true) :
    Calls Try.prog 14 #[.pointer (some ⟨b, 0, none⟩), v, .agg #[.int .i64 4, .int .i64 F, .int .i64 N, .string S, .slice a n c]] w (LDo b (setFail d N) v w) := by
  obtain ⟨gb, off, cap, rfl, ha⟩ := hr
  have hgb : gb ≠ b := hab
  have HD := Lib.hid h
  have HA := Lib.hid ha
  have hbl := cell_lt h.room
  have CU := Lib.hid (fun w => cut_any S 60 w hS (by decide))
  have hcs := cutB_le S 60
  generalize cutB S 60 = s at *
  have HRK : Hid (∀ W, Gr w W → RkIs W (.agg #[.slice (some ⟨gb, off, none⟩) 4 cap, .int .i64 (d.room : Nat), .int .i64 ((d.fail : Nat) - 1)]) d) := Lib.hid fun W hW => ⟨gb, off, cap, rfl, HA.out.gr hW⟩
  generalize hr : ((d.room : Nat) : Int) = R at *
  generalize hf : ((d.fail : Nat) : Int) - 1 = fv at *
  have HR := Lib.hid hr
  have HF := Lib.hid hf
  have HNE : Hid (w.heap.size ≠ b ∧ w.heap.size + 1 ≠ b ∧ w.heap.size + 1 + 1 ≠ b) := Lib.hid ⟨by omega, by omega, by omega⟩
  obtain ⟨t4, t5, t6, tg⟩ := three w #[.slice (some ⟨gb, off, none⟩) 4 cap, .int .i64 R, .int .i64 fv] #[.int .i64 4, .int .i64 F, .int .i64 N, .string s, .slice a n c] #[.slice none 0 0, .int .i64 0, .int .i64 0] 28 34 28
  have HB4 := Lib.hid t4
  have HB5 := Lib.hid t5
  have HB6 := Lib.hid t6
  have HG := Lib.hid tg
  clear h ha hr hf t4 t5 t6 tg hbl
  have HSF := Lib.hid (show (((setFail d N).fail : Nat) : Int) - 1 = max (min N 1073741824) (-1) by show (((min (max N (-1)) 1073741824 + 1).toNat : Nat) : Int) - 1 = _; omega)
  have HSR := Lib.hid (show (setFail d N).room = d.room from rfl)
  have HWN := Lib.hid wN
  have HGL := Lib.hid (cell_lt (HA.out 0 (by decide)).1)
  clear wN
  go_enter Try.func14, Try.ntmps14
  go_wp2_with fail
  refine (CU.out _).mono ?_
  rintro e w1 ⟨rfl, rfl⟩
  go_wp2_with fail
  generalize ((w.alloc (.cells #[.slice (some ⟨gb, off, none⟩) 4 cap, .int .i64 R, .int .i64 fv] 28)).alloc (.cells #[.int .i64 4, .int .i64 F, .int .i64 N, .string s, .slice a n c] 34)).alloc (.cells #[.slice none 0 0, .int .i64 0, .int .i64 0] 28) = w2 at *
  refine (fail_any11 N HWN.out _ (HD.out.gr HG.out)).mono ?_
  rintro e w3 ⟨rfl, hd3, hs3⟩
  have HD3 := Lib.hid hd3
  have HS3 := Lib.hid ((Sole.of_gr (p := b) HG.out).trans hs3)
  have HB43 := Lib.hid (HB4.out.sole hs3 HNE.out.1)
  have HB53 := Lib.hid (HB5.out.sole hs3 HNE.out.2.1)
  have HB63 := Lib.hid (HB6.out.sole hs3 HNE.out.2.2)
  have HA3 := Lib.hid ((HA.out.gr HG.out).sole hs3 (by have := cell_lt (HA.out 0 (by decide)).1; exact hgb))
  clear hd3 hs3
  have d0 : w3.cell? ⟨w.heap.size, 0, none⟩ = some (.slice (some ⟨gb, off, none⟩) 4 cap) := HB43.out.cell rfl
  have d1 : w3.cell? ⟨w.heap.size, 1, none⟩ = some (.int .i64 R) := HB43.out.cell rfl
  have d2 : w3.cell? ⟨w.heap.size, 2, none⟩ = some (.int .i64 fv) := HB43.out.cell rfl
  have a1 : w3.cell? ⟨w.heap.size + 1, 1, none⟩ = some (.int .i64 F) := HB53.out.cell rfl
  have a2 : w3.cell? ⟨w.heap.size + 1, 2, none⟩ = some (.int .i64 N) := HB53.out.cell rfl
  have a3 : w3.cell? ⟨w.heap.size + 1, 3, none⟩ = some (.string s) := HB53.out.cell rfl
  have a4 : w3.cell? ⟨w.heap.size + 1, 4, none⟩ = some (.slice a n c) := HB53.out.cell rfl
  have f2 := HB43.out.free 2
  have y0 := HB63.out.cell (i := 0) (v := .slice none 0 0) rfl
  have y1 := HB63.out.cell (i := 1) (v := .int .i64 0) rfl
  have y2 := HB63.out.cell (i := 2) (v := .int .i64 0) rfl
  have h0 := HB63.out.free 0
  have h1 := HB63.out.free 1
  have h2 := HB63.out.free 2
  have HB64 := Lib.hid (HB63.out.other (c := w.heap.size) (by omega) 2 (.int .i64 (max (min N 1073741824) (-1))))
  have HA4 := Lib.hid (HA3.out.sole (Sole.setCell w.heap.size 2 w3 (.int .i64 (max (min N 1073741824) (-1)))) (by have := HGL.out; omega))
  have HSU := Lib.hid (stored (d := setFail d N) (R := R) (fv := (max (min N 1073741824) (-1))) (cap := cap) HB64.out HA4.out)
  have HD6 := Lib.hid ((HD3.out.sole (Sole.setCell w.heap.size 2 w3 (.int .i64 (max (min N 1073741824) (-1)))) HNE.out.1.symm).sole (store3_sole _ (w.heap.size + 1 + 1) (.slice (some ⟨gb, off, none⟩) 4 cap) (.int .i64 R) (.int .i64 (max (min N 1073741824) (-1)))) HNE.out.2.2.symm)
  have HS6 := Lib.hid ((HS3.out.new (Sole.setCell w.heap.size 2 w3 (.int .i64 (max (min N 1073741824) (-1)))) (by omega)).new (store3_sole _ (w.heap.size + 1 + 1) (.slice (some ⟨gb, off, none⟩) 4 cap) (.int .i64 R) (.int .i64 (max (min N 1073741824) (-1)))) (by omega))
  go_wp2
  have r0 := HSU.out.1.cell (i := 0) (v := .slice (some ⟨gb, off, none⟩) 4 cap) rfl
  have r1 := HSU.out.1.cell (i := 1) (v := .int .i64 R) rfl
  have r2 := HSU.out.1.cell (i := 2) (v := .int .i64 (max (min N 1073741824) (-1))) rfl
  refine bodyPost_ret (v := .tuple #[.agg #[.slice (some ⟨gb, off, none⟩) 4 cap, .int .i64 R, .int .i64 (max (min N 1073741824) (-1))], .bool true]) (by simp [results, Try.results14, go_sem, r0, r1, r2]; try rfl) rfl ?_
  exact ⟨_, rfl, HD6.out, ⟨gb, off, cap, by rw [HSR.out, HR.out, HSF.out], HSU.out.2⟩, HS6.out, .inl (by rfl)⟩
set_option maxRecDepth 100000 in
set_option maxHeartbeats 2000000 in
theorem lawDo_crash_short {b : Nat} {d : D} (F N : Int) (S : ByteArray) (C : List Int) (a : Option Addr) (c : Nat) (v : Value) (w : World) (h : DkIs w b d) (hr : RkIs w v d) (hab : rowOf v ≠ b) (hS : S.size ≤ 9223372036854775807) (hC : Ints w a C) (hcap : C.length ≤ c) (hoff : C = [] ∨ Off a b) (hlen : C.length ≤ 8) :
    Calls Try.prog 14 #[.pointer (some ⟨b, 0, none⟩), v, .agg #[.int .i64 3, .int .i64 F, .int .i64 N, .string S, .slice a C.length c]] w (LDo b (crash d (C.take 8)) v w) := by
  have ht : C.take 8 = C := List.take_of_length_le hlen
  rw [ht]
  have HCR := Lib.hid (fun W (h1 : Gr w W) (h2 : DkIs W b d) => crash_any C a c W (hC.gr h1) hcap hoff h2)
  have HRR := Lib.hid (fun V W (h1 : Ints W a C) (h2 : RkIs W V d) => refCrash_any C a c V W h2 h.ok h1)
  have HCI := Lib.hid hC
  have HCO := Lib.hid hoff
  obtain ⟨DD, hDD⟩ : ∃ DD, crash d C = DD := ⟨_, rfl⟩
  rw [hDD] at HCR HRR ⊢
  clear hC hoff hDD
  generalize C.length = n at *
  obtain ⟨gb, off, cap, rfl, ha⟩ := hr
  have hgb : gb ≠ b := hab
  have HD := Lib.hid h
  have HA := Lib.hid ha
  have hbl := cell_lt h.room
  have CU := Lib.hid (fun w => cut_any S 60 w hS (by decide))
  have hcs := cutB_le S 60
  generalize cutB S 60 = s at *
  have HRK : Hid (∀ W, Gr w W → RkIs W (.agg #[.slice (some ⟨gb, off, none⟩) 4 cap, .int .i64 (d.room : Nat), .int .i64 ((d.fail : Nat) - 1)]) d) := Lib.hid fun W hW => ⟨gb, off, cap, rfl, HA.out.gr hW⟩
  generalize hr : ((d.room : Nat) : Int) = R at *
  generalize hf : ((d.fail : Nat) : Int) - 1 = fv at *
  have HR := Lib.hid hr
  have HF := Lib.hid hf
  have HNE : Hid (w.heap.size ≠ b ∧ w.heap.size + 1 ≠ b ∧ w.heap.size + 1 + 1 ≠ b) := Lib.hid ⟨by omega, by omega, by omega⟩
  obtain ⟨t4, t5, t6, tg⟩ := three w #[.slice (some ⟨gb, off, none⟩) 4 cap, .int .i64 R, .int .i64 fv] #[.int .i64 3, .int .i64 F, .int .i64 N, .string s, .slice a n c] #[.slice none 0 0, .int .i64 0, .int .i64 0] 28 34 28
  have HB4 := Lib.hid t4
  have HB5 := Lib.hid t5
  have HB6 := Lib.hid t6
  have HG := Lib.hid tg
  clear h ha hr hf t4 t5 t6 tg hbl
  have hn8 : (n : Int) ≤ 8 := by omega
  clear hlen
  go_enter Try.func14, Try.ntmps14
  go_wp2_with fail
  refine (CU.out _).mono ?_
  rintro e w1 ⟨rfl, rfl⟩
  go_wp2_with fail
  generalize ((w.alloc (.cells #[.slice (some ⟨gb, off, none⟩) 4 cap, .int .i64 R, .int .i64 fv] 28)).alloc (.cells #[.int .i64 3, .int .i64 F, .int .i64 N, .string s, .slice a n c] 34)).alloc (.cells #[.slice none 0 0, .int .i64 0, .int .i64 0] 28) = w2 at *
  refine (HCR.out _ HG.out (HD.out.gr HG.out)).mono ?_
  rintro e w3 ⟨rfl, hd3, hs3⟩
  have HD3 := Lib.hid hd3
  have HS3 := Lib.hid ((Sole.of_gr (p := b) HG.out).trans hs3)
  have HB43 := Lib.hid (HB4.out.sole hs3 HNE.out.1)
  have HB53 := Lib.hid (HB5.out.sole hs3 HNE.out.2.1)
  have HB63 := Lib.hid (HB6.out.sole hs3 HNE.out.2.2)
  have HA3 := Lib.hid ((HA.out.gr HG.out).sole hs3 (by have := cell_lt (HA.out 0 (by decide)).1; exact hgb))
  have HCI3 := Lib.hid (((HCI.out.gr HG.out).sole hs3 HCO.out))
  clear hd3 hs3
  have d0 : w3.cell? ⟨w.heap.size, 0, none⟩ = some (.slice (some ⟨gb, off, none⟩) 4 cap) := HB43.out.cell rfl
  have d1 : w3.cell? ⟨w.heap.size, 1, none⟩ = some (.int .i64 R) := HB43.out.cell rfl
  have d2 : w3.cell? ⟨w.heap.size, 2, none⟩ = some (.int .i64 fv) := HB43.out.cell rfl
  have a1 : w3.cell? ⟨w.heap.size + 1, 1, none⟩ = some (.int .i64 F) := HB53.out.cell rfl
  have a2 : w3.cell? ⟨w.heap.size + 1, 2, none⟩ = some (.int .i64 N) := HB53.out.cell rfl
  have a3 : w3.cell? ⟨w.heap.size + 1, 3, none⟩ = some (.string s) := HB53.out.cell rfl
  have a4 : w3.cell? ⟨w.heap.size + 1, 4, none⟩ = some (.slice a n c) := HB53.out.cell rfl
  go_wp2_with fail
  have hrk3 : RkIs w3 (.agg #[.slice (some ⟨gb, off, none⟩) 4 cap, .int .i64 R, .int .i64 fv]) d := ⟨gb, off, cap, by rw [HR.out, HF.out], HA3.out⟩
  refine (HRR.out _ _ HCI3.out hrk3).mono ?_
  rintro e w4 ⟨v4, rfl, hr4, hg4, hn4⟩
  obtain ⟨g4, off4, cap4, rfl, ha4⟩ := hr4
  have HN4 : Hid (g4 = gb ∨ w.heap.size ≤ g4) := Lib.hid (hn4.imp id (fun h => Nat.le_trans HS3.out.size h))
  have HA4 := Lib.hid ha4
  have HD4 := Lib.hid (HD3.out.gr hg4)
  have HB44 := Lib.hid (HB43.out.gr hg4)
  have HB64 := Lib.hid (HB63.out.gr hg4)
  have HS4 := Lib.hid (HS3.out.trans (Sole.of_gr hg4))
  generalize hR4 : ((DD.room : Nat) : Int) = R4 at *
  generalize hF4 : ((DD.fail : Nat) : Int) - 1 = F4 at *
  have HR4 := Lib.hid hR4
  have HF4 := Lib.hid hF4
  clear hR4 hF4 ha4 hg4 hrk3 hn4
  have HST := Lib.hid (stored (d := DD) (R := R4) (fv := F4) (cap := cap4) HB44.out HA4.out)
  have HB65 := Lib.hid (HB64.out.sole (store3_sole w4 w.heap.size (.slice (some ⟨g4, off4, none⟩) 4 cap4) (.int .i64 R4) (.int .i64 F4)) (by omega))
  have HSU := Lib.hid (stored (d := DD) (R := R4) (fv := F4) (cap := cap4) HB65.out HST.out.2)
  have HD6 := Lib.hid ((HD4.out.sole (store3_sole w4 w.heap.size (.slice (some ⟨g4, off4, none⟩) 4 cap4) (.int .i64 R4) (.int .i64 F4)) HNE.out.1.symm).sole (store3_sole _ (w.heap.size + 1 + 1) (.slice (some ⟨g4, off4, none⟩) 4 cap4) (.int .i64 R4) (.int .i64 F4)) HNE.out.2.2.symm)
  have HS6 := Lib.hid ((HS4.out.new (store3_sole w4 w.heap.size (.slice (some ⟨g4, off4, none⟩) 4 cap4) (.int .i64 R4) (.int .i64 F4)) (by omega)).new (store3_sole _ (w.heap.size + 1 + 1) (.slice (some ⟨g4, off4, none⟩) 4 cap4) (.int .i64 R4) (.int .i64 F4)) (by omega))
  have b0 : w4.cell? ⟨w.heap.size, 0, none⟩ = some (.slice (some ⟨gb, off, none⟩) 4 cap) := HB44.out.cell rfl
  have b1 : w4.cell? ⟨w.heap.size, 1, none⟩ = some (.int .i64 R) := HB44.out.cell rfl
  have b2 : w4.cell? ⟨w.heap.size, 2, none⟩ = some (.int .i64 fv) := HB44.out.cell rfl
  have f0 := HB44.out.free 0
  have f1 := HB44.out.free 1
  have f2 := HB44.out.free 2
  have x0 := HST.out.1.cell (i := 0) (v := .slice (some ⟨g4, off4, none⟩) 4 cap4) rfl
  have x1 := HST.out.1.cell (i := 1) (v := .int .i64 R4) rfl
  have x2 := HST.out.1.cell (i := 2) (v := .int .i64 F4) rfl
  have y0 := HB65.out.cell (i := 0) (v := .slice none 0 0) rfl
  have y1 := HB65.out.cell (i := 1) (v := .int .i64 0) rfl
  have y2 := HB65.out.cell (i := 2) (v := .int .i64 0) rfl
  have h0 := HB65.out.free 0
  have h1 := HB65.out.free 1
  have h2 := HB65.out.free 2
  clear d0 d1 d2 a1 a2 a3 a4
  go_wp2
  have r0 := HSU.out.1.cell (i := 0) (v := .slice (some ⟨g4, off4, none⟩) 4 cap4) rfl
  have r1 := HSU.out.1.cell (i := 1) (v := .int .i64 R4) rfl
  have r2 := HSU.out.1.cell (i := 2) (v := .int .i64 F4) rfl
  refine bodyPost_ret (v := .tuple #[.agg #[.slice (some ⟨g4, off4, none⟩) 4 cap4, .int .i64 R4, .int .i64 F4], .bool true]) (by simp [results, Try.results14, go_sem, r0, r1, r2]; try rfl) rfl ?_
  exact ⟨_, rfl, HD6.out, ⟨g4, off4, cap4, by rw [HR4.out, HF4.out], HSU.out.2⟩, HS6.out, by exact HN4.out⟩
set_option maxRecDepth 100000 in
set_option maxHeartbeats 2000000 in
theorem lawDo_crash_long {b : Nat} {d : D} (F N : Int) (S : ByteArray) (C : List Int) (a : Option Addr) (c : Nat) (v : Value) (w : World) (h : DkIs w b d) (hr : RkIs w v d) (hab : rowOf v ≠ b) (hS : S.size ≤ 9223372036854775807) (hC : Ints w a C) (hcap : C.length ≤ c) (hoff : C = [] ∨ Off a b) (hlen : 8 < C.length) :
    Calls Try.prog 14 #[.pointer (some ⟨b, 0, none⟩), v, .agg #[.int .i64 3, .int .i64 F, .int .i64 N, .string S, .slice a C.length c]] w (LDo b (crash d (C.take 8)) v w) := by
  have hl8 : (C.take 8).length = 8 := by simp; omega
  have HCR := Lib.hid (fun W (h1 : Gr w W) (h2 : DkIs W b d) => crash_any (C.take 8) a c W ((hC.gr h1).take 8) (by omega) (hoff.imp (fun e => by rw [e]; rfl) id) h2)
  have HRR := Lib.hid (fun V W (h1 : Ints W a C) (h2 : RkIs W V d) => refCrash_any (C.take 8) a c V W h2 h.ok (h1.take 8))
  rw [hl8] at HCR HRR
  have HCI := Lib.hid hC
  have HCO := Lib.hid hoff
  obtain ⟨DD, hDD⟩ : ∃ DD, crash d (C.take 8) = DD := ⟨_, rfl⟩
  rw [hDD] at HCR HRR ⊢
  clear hC hoff hDD
  generalize C.length = n at *
  obtain ⟨gb, off, cap, rfl, ha⟩ := hr
  have hgb : gb ≠ b := hab
  have HD := Lib.hid h
  have HA := Lib.hid ha
  have hbl := cell_lt h.room
  have CU := Lib.hid (fun w => cut_any S 60 w hS (by decide))
  have hcs := cutB_le S 60
  generalize cutB S 60 = s at *
  have HRK : Hid (∀ W, Gr w W → RkIs W (.agg #[.slice (some ⟨gb, off, none⟩) 4 cap, .int .i64 (d.room : Nat), .int .i64 ((d.fail : Nat) - 1)]) d) := Lib.hid fun W hW => ⟨gb, off, cap, rfl, HA.out.gr hW⟩
  generalize hr : ((d.room : Nat) : Int) = R at *
  generalize hf : ((d.fail : Nat) : Int) - 1 = fv at *
  have HR := Lib.hid hr
  have HF := Lib.hid hf
  have HNE : Hid (w.heap.size ≠ b ∧ w.heap.size + 1 ≠ b ∧ w.heap.size + 1 + 1 ≠ b) := Lib.hid ⟨by omega, by omega, by omega⟩
  obtain ⟨t4, t5, t6, tg⟩ := three w #[.slice (some ⟨gb, off, none⟩) 4 cap, .int .i64 R, .int .i64 fv] #[.int .i64 3, .int .i64 F, .int .i64 N, .string s, .slice a 8 c] #[.slice none 0 0, .int .i64 0, .int .i64 0] 28 34 28
  have HB4 := Lib.hid t4
  have HB5 := Lib.hid t5
  have HB6 := Lib.hid t6
  have HG := Lib.hid tg
  clear h ha hr hf t4 t5 t6 tg hbl
  have hn8 : (8 : Int) < (n : Int) := by omega
  have hc8 : (8 : Int) ≤ (c : Int) := by omega
  have hc9 : 8 ≤ c := by omega
  clear hl8 hlen hcap
  go_enter Try.func14, Try.ntmps14
  go_wp2_with fail
  refine (CU.out _).mono ?_
  rintro e w1 ⟨rfl, rfl⟩
  go_wp2_with fail
  generalize ((w.alloc (.cells #[.slice (some ⟨gb, off, none⟩) 4 cap, .int .i64 R, .int .i64 fv] 28)).alloc (.cells #[.int .i64 3, .int .i64 F, .int .i64 N, .string s, .slice a 8 c] 34)).alloc (.cells #[.slice none 0 0, .int .i64 0, .int .i64 0] 28) = w2 at *
  refine (HCR.out _ HG.out (HD.out.gr HG.out)).mono ?_
  rintro e w3 ⟨rfl, hd3, hs3⟩
  have HD3 := Lib.hid hd3
  have HS3 := Lib.hid ((Sole.of_gr (p := b) HG.out).trans hs3)
  have HB43 := Lib.hid (HB4.out.sole hs3 HNE.out.1)
  have HB53 := Lib.hid (HB5.out.sole hs3 HNE.out.2.1)
  have HB63 := Lib.hid (HB6.out.sole hs3 HNE.out.2.2)
  have HA3 := Lib.hid ((HA.out.gr HG.out).sole hs3 (by have := cell_lt (HA.out 0 (by decide)).1; exact hgb))
  have HCI3 := Lib.hid (((HCI.out.gr HG.out).sole hs3 HCO.out))
  clear hd3 hs3
  have d0 : w3.cell? ⟨w.heap.size, 0, none⟩ = some (.slice (some ⟨gb, off, none⟩) 4 cap) := HB43.out.cell rfl
  have d1 : w3.cell? ⟨w.heap.size, 1, none⟩ = some (.int .i64 R) := HB43.out.cell rfl
  have d2 : w3.cell? ⟨w.heap.size, 2, none⟩ = some (.int .i64 fv) := HB43.out.cell rfl
  have a1 : w3.cell? ⟨w.heap.size + 1, 1, none⟩ = some (.int .i64 F) := HB53.out.cell rfl
  have a2 : w3.cell? ⟨w.heap.size + 1, 2, none⟩ = some (.int .i64 N) := HB53.out.cell rfl
  have a3 : w3.cell? ⟨w.heap.size + 1, 3, none⟩ = some (.string s) := HB53.out.cell rfl
  have a4 : w3.cell? ⟨w.heap.size + 1, 4, none⟩ = some (.slice a 8 c) := HB53.out.cell rfl
  go_wp2_with fail
  have hrk3 : RkIs w3 (.agg #[.slice (some ⟨gb, off, none⟩) 4 cap, .int .i64 R, .int .i64 fv]) d := ⟨gb, off, cap, by rw [HR.out, HF.out], HA3.out⟩
  refine (HRR.out _ _ HCI3.out hrk3).mono ?_
  rintro e w4 ⟨v4, rfl, hr4, hg4, hn4⟩
  obtain ⟨g4, off4, cap4, rfl, ha4⟩ := hr4
  have HN4 : Hid (g4 = gb ∨ w.heap.size ≤ g4) := Lib.hid (hn4.imp id (fun h => Nat.le_trans HS3.out.size h))
  have HA4 := Lib.hid ha4
  have HD4 := Lib.hid (HD3.out.gr hg4)
  have HB44 := Lib.hid (HB43.out.gr hg4)
  have HB64 := Lib.hid (HB63.out.gr hg4)
  have HS4 := Lib.hid (HS3.out.trans (Sole.of_gr hg4))
  generalize hR4 : ((DD.room : Nat) : Int) = R4 at *
  generalize hF4 : ((DD.fail : Nat) : Int) - 1 = F4 at *
  have HR4 := Lib.hid hR4
  have HF4 := Lib.hid hF4
  clear hR4 hF4 ha4 hg4 hrk3 hn4
  have HST := Lib.hid (stored (d := DD) (R := R4) (fv := F4) (cap := cap4) HB44.out HA4.out)
  have HB65 := Lib.hid (HB64.out.sole (store3_sole w4 w.heap.size (.slice (some ⟨g4, off4, none⟩) 4 cap4) (.int .i64 R4) (.int .i64 F4)) (by omega))
  have HSU := Lib.hid (stored (d := DD) (R := R4) (fv := F4) (cap := cap4) HB65.out HST.out.2)
  have HD6 := Lib.hid ((HD4.out.sole (store3_sole w4 w.heap.size (.slice (some ⟨g4, off4, none⟩) 4 cap4) (.int .i64 R4) (.int .i64 F4)) HNE.out.1.symm).sole (store3_sole _ (w.heap.size + 1 + 1) (.slice (some ⟨g4, off4, none⟩) 4 cap4) (.int .i64 R4) (.int .i64 F4)) HNE.out.2.2.symm)
  have HS6 := Lib.hid ((HS4.out.new (store3_sole w4 w.heap.size (.slice (some ⟨g4, off4, none⟩) 4 cap4) (.int .i64 R4) (.int .i64 F4)) (by omega)).new (store3_sole _ (w.heap.size + 1 + 1) (.slice (some ⟨g4, off4, none⟩) 4 cap4) (.int .i64 R4) (.int .i64 F4)) (by omega))
  have b0 : w4.cell? ⟨w.heap.size, 0, none⟩ = some (.slice (some ⟨gb, off, none⟩) 4 cap) := HB44.out.cell rfl
  have b1 : w4.cell? ⟨w.heap.size, 1, none⟩ = some (.int .i64 R) := HB44.out.cell rfl
  have b2 : w4.cell? ⟨w.heap.size, 2, none⟩ = some (.int .i64 fv) := HB44.out.cell rfl
  have f0 := HB44.out.free 0
  have f1 := HB44.out.free 1
  have f2 := HB44.out.free 2
  have x0 := HST.out.1.cell (i := 0) (v := .slice (some ⟨g4, off4, none⟩) 4 cap4) rfl
  have x1 := HST.out.1.cell (i := 1) (v := .int .i64 R4) rfl
  have x2 := HST.out.1.cell (i := 2) (v := .int .i64 F4) rfl
  have y0 := HB65.out.cell (i := 0) (v := .slice none 0 0) rfl
  have y1 := HB65.out.cell (i := 1) (v := .int .i64 0) rfl
  have y2 := HB65.out.cell (i := 2) (v := .int .i64 0) rfl
  have h0 := HB65.out.free 0
  have h1 := HB65.out.free 1
  have h2 := HB65.out.free 2
  clear d0 d1 d2 a1 a2 a3 a4
  go_wp2
  have r0 := HSU.out.1.cell (i := 0) (v := .slice (some ⟨g4, off4, none⟩) 4 cap4) rfl
  have r1 := HSU.out.1.cell (i := 1) (v := .int .i64 R4) rfl
  have r2 := HSU.out.1.cell (i := 2) (v := .int .i64 F4) rfl
  refine bodyPost_ret (v := .tuple #[.agg #[.slice (some ⟨g4, off4, none⟩) 4 cap4, .int .i64 R4, .int .i64 F4], .bool true]) (by simp [results, Try.results14, go_sem, r0, r1, r2]; try rfl) rfl ?_
  exact ⟨_, rfl, HD6.out, ⟨g4, off4, cap4, by rw [HR4.out, HF4.out], HSU.out.2⟩, HS6.out, by exact HN4.out⟩
end Go.Proofs.Ytjllnojhhlkpoaa
