import Derived.Test.YtjllnojhhlkpoaaF11x
import Derived.WalkKit
import Derived.ProofKit
import Derived.LoopTactic
import Derived.Outline
import Derived.WalkSpells
import Derived.WalkLawsBesides
import Derived.Lib.Hide
import Derived.Deep.LoopGhost
import Derived.Deep.QuietTactic
import Derived.BigQuiet
import Derived.ShutString
import Derived.IntWalk
import Derived.Lib.MinMax
import Derived.BigQuiet
import Derived.Deep.RegionWith
import Derived.Deep.RegionHeld3
namespace Go.Proofs.Ytjllnojhhlkpoaa
open Go.ChangeShapes Go.WideShapes Go.ChangeAt Go.RowKit
open Dk
set_option linter.unusedVariables false
set_option linter.unusedSimpArgs false
theorem refDo_app {d : D} (i : Int) (s : ByteArray) (hs : s.size ≤ 1099511627776) (v : Value) (w : World) (h : RkIs w v d) (ho : d.Ok) :
    Calls Try.prog 19 #[v, .int .i64 0, .int .i64 i, .string s] w (RDo d i (gApp s) v w) := by
  by_cases hi : 0 ≤ i ∧ i < 4
  · obtain ⟨k, rfl⟩ := Int.eq_ofNat_of_zero_le hi.1
    have hk : k < 4 := by omega
    by_cases h1 : d.fail = 1
    · exact refDo_io _ k hk _ s v w h h1
    · cases hf : full (tick d) k (gApp s (d.fs k))
      · exact refDo_app_yes k hk s hs v w h ho h1 hf
      · exact refDo_app_no k hk s hs v w h ho h1 hf
  · exact refDo_out _ i _ s v w h hi
theorem refDo_put {d : D} (i : Int) (s : ByteArray) (hs : s.size ≤ 1099511627776) (v : Value) (w : World) (h : RkIs w v d) (ho : d.Ok) :
    Calls Try.prog 19 #[v, .int .i64 1, .int .i64 i, .string s] w (RDo d i (gPut s) v w) := by
  by_cases hi : 0 ≤ i ∧ i < 4
  · obtain ⟨k, rfl⟩ := Int.eq_ofNat_of_zero_le hi.1
    have hk : k < 4 := by omega
    by_cases h1 : d.fail = 1
    · exact refDo_io _ k hk _ s v w h h1
    · cases hf : full (tick d) k (gPut s (d.fs k))
      · exact refDo_put_yes k hk s hs v w h ho h1 hf
      · exact refDo_put_no k hk s hs v w h ho h1 hf
  · exact refDo_out _ i _ s v w h hi
theorem refDo_sync_any {d : D} (i : Int) (s : ByteArray) (v : Value) (w : World) (h : RkIs w v d) (ho : d.Ok) :
    Calls Try.prog 19 #[v, .int .i64 2, .int .i64 i, .string s] w (RDo d i gKeep v w) := by
  by_cases hi : 0 ≤ i ∧ i < 4
  · obtain ⟨k, rfl⟩ := Int.eq_ofNat_of_zero_le hi.1
    have hk : k < 4 := by omega
    by_cases h1 : d.fail = 1
    · exact refDo_io _ k hk _ s v w h h1
    · exact refDo_sync k hk s v w h ho h1
  · exact refDo_out _ i _ s v w h hi
theorem Blk.sole {w w' : World} {n p : Nat} {cs : Array Value} {t : TypeId} (h : Blk w n cs t) (hs : Sole p w w') (hn : n ≠ p) : Blk w' n cs t := (hs.block n h.lt hn).trans h
/-- What the statement's do answers. -/
def LDo (b : Nat) (d : D) (v : Value) (w : World) (e : Ending) (w' : World) : Prop := ∃ v', e = .returned (.tuple #[v', .bool true]) ∧ DkIs w' b d ∧ RkIs w' v' d ∧ Sole b w w' ∧ (rowOf v' = rowOf v ∨ w.heap.size ≤ rowOf v')
theorem three (w : World) (A B C : Array Value) (t1 t2 t3 : TypeId) : Blk (((w.alloc (.cells A t1)).alloc (.cells B t2)).alloc (.cells C t3)) w.heap.size A t1 ∧ Blk (((w.alloc (.cells A t1)).alloc (.cells B t2)).alloc (.cells C t3)) (w.heap.size + 1) B t2 ∧ Blk (((w.alloc (.cells A t1)).alloc (.cells B t2)).alloc (.cells C t3)) (w.heap.size + 1 + 1) C t3 ∧ Gr w (((w.alloc (.cells A t1)).alloc (.cells B t2)).alloc (.cells C t3)) := by
  have s1 : (w.alloc (.cells A t1)).heap.size = w.heap.size + 1 := by simp
  have s2 : ((w.alloc (.cells A t1)).alloc (.cells B t2)).heap.size = w.heap.size + 1 + 1 := by simp
  have b2 := (Blk.new (w.alloc (.cells A t1)) B t2).gr ((Gr.refl _).alloc (.cells C t3))
  have b3 := Blk.new ((w.alloc (.cells A t1)).alloc (.cells B t2)) C t3
  rw [s1] at b2
  rw [s2] at b3
  exact ⟨(Blk.new w A t1).gr (((Gr.refl _).alloc _).alloc _), b2, b3, (((Gr.refl w).alloc _).alloc _).alloc _⟩
theorem Sole.new {b n : Nat} {w w1 w2 : World} (h : Sole b w w1) (hs : Sole n w1 w2) (hn : w.heap.size ≤ n) : Sole b w w2 :=
  ⟨hs.os.trans h.os, hs.tape.trans h.tape, hs.output.trans h.output, Nat.le_trans h.size hs.size, fun k hk hkb => (hs.block k (Nat.lt_of_lt_of_le hk h.size) (by omega)).trans (h.block k hk hkb)⟩
set_option maxRecDepth 100000 in
set_option maxHeartbeats 2000000 in
theorem lawDo_app {b : Nat} {d : D} (F N : Int) (S : ByteArray) (a : Option Addr) (n c : Nat) (v : Value) (w : World) (h : DkIs w b d) (hr : RkIs w v d) (hab : rowOf v ≠ b) (hS : S.size ≤ 9223372036854775807) :
    Calls Try.prog 14 #[.pointer (some ⟨b, 0, none⟩), v, .agg #[.int .i64 0, .int .i64 F, .int .i64 N, .string S, .slice a n c]] w (LDo b (act d F (gApp (cutB S 60))).1 v w) := by
  obtain ⟨gb, off, cap, rfl, ha⟩ := hr
  have hgb : gb ≠ b := hab
  have HD := Lib.hid h
  have HA := Lib.hid ha
  have hbl := cell_lt h.room
  have CU := Lib.hid (fun w => cut_any S 60 w hS (by decide))
  have hcs := cutB_le S 60
  generalize cutB S 60 = s at *
  have HRK : Hid (∀ W, Gr w W → RkIs W (.agg #[.slice (some ⟨gb, off, none⟩) 4 cap, .int .i64 (d.room : Nat), .int .i64 ((d.fail : Nat) - 1)]) d) := Lib.hid fun W hW => ⟨gb, off, cap, rfl, HA.out.gr hW⟩
  generalize hr : ((d.room : Nat) : Int) = R at *
  generalize hf : ((d.fail : Nat) : Int) - 1 = fv at *
  have HR := Lib.hid hr
  have HF := Lib.hid hf
  have HNE : Hid (w.heap.size ≠ b ∧ w.heap.size + 1 ≠ b ∧ w.heap.size + 1 + 1 ≠ b) := Lib.hid ⟨by omega, by omega, by omega⟩
  obtain ⟨t4, t5, t6, tg⟩ := three w #[.slice (some ⟨gb, off, none⟩) 4 cap, .int .i64 R, .int .i64 fv] #[.int .i64 0, .int .i64 F, .int .i64 N, .string s, .slice a n c] #[.slice none 0 0, .int .i64 0, .int .i64 0] 28 34 28
  have HB4 := Lib.hid t4
  have HB5 := Lib.hid t5
  have HB6 := Lib.hid t6
  have HG := Lib.hid tg
  clear h ha hr hf t4 t5 t6 tg hbl
  obtain ⟨DD, q, hq⟩ : ∃ DD q, act d F (gApp s) = (DD, q) := ⟨_, _, rfl⟩
  rw [hq]
  have HQ := Lib.hid hq
  clear hq hab
  go_enter Try.func14, Try.ntmps14
  go_wp2_with fail
  refine (CU.out _).mono ?_
  rintro e w1 ⟨rfl, rfl⟩
  go_wp2_with fail
  generalize ((w.alloc (.cells #[.slice (some ⟨gb, off, none⟩) 4 cap, .int .i64 R, .int .i64 fv] 28)).alloc (.cells #[.int .i64 0, .int .i64 F, .int .i64 N, .string s, .slice a n c] 34)).alloc (.cells #[.slice none 0 0, .int .i64 0, .int .i64 0] 28) = w2 at *
  refine (append_any11 F s (by omega) _ (HD.out.gr HG.out)).mono ?_
  rintro e w3 hact
  unfold ActIs at hact
  rw [HQ.out] at hact
  obtain ⟨rfl, hd3, hs3⟩ := hact
  have HD3 := Lib.hid hd3
  have HS3 := Lib.hid ((Sole.of_gr (p := b) HG.out).trans hs3)
  have HB43 := Lib.hid (HB4.out.sole hs3 HNE.out.1)
  have HB53 := Lib.hid (HB5.out.sole hs3 HNE.out.2.1)
  have HB63 := Lib.hid (HB6.out.sole hs3 HNE.out.2.2)
  have HA3 := Lib.hid ((HA.out.gr HG.out).sole hs3 (by have := cell_lt (HA.out 0 (by decide)).1; exact hgb))
  clear hd3 hs3
  have d0 : w3.cell? ⟨w.heap.size, 0, none⟩ = some (.slice (some ⟨gb, off, none⟩) 4 cap) := HB43.out.cell rfl
  have d1 : w3.cell? ⟨w.heap.size, 1, none⟩ = some (.int .i64 R) := HB43.out.cell rfl
  have d2 : w3.cell? ⟨w.heap.size, 2, none⟩ = some (.int .i64 fv) := HB43.out.cell rfl
  have a1 : w3.cell? ⟨w.heap.size + 1, 1, none⟩ = some (.int .i64 F) := HB53.out.cell rfl
  have a2 : w3.cell? ⟨w.heap.size + 1, 2, none⟩ = some (.int .i64 N) := HB53.out.cell rfl
  have a3 : w3.cell? ⟨w.heap.size + 1, 3, none⟩ = some (.string s) := HB53.out.cell rfl
  have a4 : w3.cell? ⟨w.heap.size + 1, 4, none⟩ = some (.slice a n c) := HB53.out.cell rfl
  go_wp2_with fail
  have hrk3 : RkIs w3 (.agg #[.slice (some ⟨gb, off, none⟩) 4 cap, .int .i64 R, .int .i64 fv]) d := ⟨gb, off, cap, by rw [HR.out, HF.out], HA3.out⟩
  refine (refDo_app F s (by omega) _ _ hrk3 HD.out.ok).mono ?_
  rintro e w4 hdo
  unfold RDo at hdo
  rw [HQ.out] at hdo
  obtain ⟨v4, rfl, hr4, hg4, hn4⟩ := hdo
  obtain ⟨g4, off4, cap4, rfl, ha4⟩ := hr4
  have HN4 : Hid (g4 = gb ∨ w.heap.size ≤ g4) := Lib.hid (hn4.imp id (fun h => Nat.le_trans HS3.out.size h))
  have HA4 := Lib.hid ha4
  have HD4 := Lib.hid (HD3.out.gr hg4)
  have HB44 := Lib.hid (HB43.out.gr hg4)
  have HB64 := Lib.hid (HB63.out.gr hg4)
  have HS4 := Lib.hid (HS3.out.trans (Sole.of_gr hg4))
  generalize hR4 : ((DD.room : Nat) : Int) = R4 at *
  generalize hF4 : ((DD.fail : Nat) : Int) - 1 = F4 at *
  have HR4 := Lib.hid hR4
  have HF4 := Lib.hid hF4
  clear hR4 hF4 ha4 hg4 hrk3 hn4
  have HST := Lib.hid (stored (d := DD) (R := R4) (fv := F4) (cap := cap4) HB44.out HA4.out)
  have HB65 := Lib.hid (HB64.out.sole (store3_sole w4 w.heap.size (.slice (some ⟨g4, off4, none⟩) 4 cap4) (.int .i64 R4) (.int .i64 F4)) (by omega))
  have HSU := Lib.hid (stored (d := DD) (R := R4) (fv := F4) (cap := cap4) HB65.out HST.out.2)
  have HD6 := Lib.hid ((HD4.out.sole (store3_sole w4 w.heap.size (.slice (some ⟨g4, off4, none⟩) 4 cap4) (.int .i64 R4) (.int .i64 F4)) HNE.out.1.symm).sole (store3_sole _ (w.heap.size + 1 + 1) (.slice (some ⟨g4, off4, none⟩) 4 cap4) (.int .i64 R4) (.int .i64 F4)) HNE.out.2.2.symm)
  have HS6 := Lib.hid ((HS4.out.new (store3_sole w4 w.heap.size (.slice (some ⟨g4, off4, none⟩) 4 cap4) (.int .i64 R4) (.int .i64 F4)) (by omega)).new (store3_sole _ (w.heap.size + 1 + 1) (.slice (some ⟨g4, off4, none⟩) 4 cap4) (.int .i64 R4) (.int .i64 F4)) (by omega))
  have b0 : w4.cell? ⟨w.heap.size, 0, none⟩ = some (.slice (some ⟨gb, off, none⟩) 4 cap) := HB44.out.cell rfl
  have b1 : w4.cell? ⟨w.heap.size, 1, none⟩ = some (.int .i64 R) := HB44.out.cell rfl
  have b2 : w4.cell? ⟨w.heap.size, 2, none⟩ = some (.int .i64 fv) := HB44.out.cell rfl
  have f0 := HB44.out.free 0
  have f1 := HB44.out.free 1
  have f2 := HB44.out.free 2
  have x0 := HST.out.1.cell (i := 0) (v := .slice (some ⟨g4, off4, none⟩) 4 cap4) rfl
  have x1 := HST.out.1.cell (i := 1) (v := .int .i64 R4) rfl
  have x2 := HST.out.1.cell (i := 2) (v := .int .i64 F4) rfl
  have y0 := HB65.out.cell (i := 0) (v := .slice none 0 0) rfl
  have y1 := HB65.out.cell (i := 1) (v := .int .i64 0) rfl
  have y2 := HB65.out.cell (i := 2) (v := .int .i64 0) rfl
  have h0 := HB65.out.free 0
  have h1 := HB65.out.free 1
  have h2 := HB65.out.free 2
  clear d0 d1 d2 a1 a2 a3 a4
  go_wp2
  have r0 := HSU.out.1.cell (i := 0) (v := .slice (some ⟨g4, off4, none⟩) 4 cap4) rfl
  have r1 := HSU.out.1.cell (i := 1) (v := .int .i64 R4) rfl
  have r2 := HSU.out.1.cell (i := 2) (v := .int .i64 F4) rfl
  refine bodyPost_ret (v := .tuple #[.agg #[.slice (some ⟨g4, off4, none⟩) 4 cap4, .int .i64 R4, .int .i64 F4], .bool true]) (by simp [results, Try.results14, go_sem, r0, r1, r2]; try rfl) rfl ?_
  exact ⟨_, rfl, HD6.out, ⟨g4, off4, cap4, by rw [HR4.out, HF4.out], HSU.out.2⟩, HS6.out, by exact HN4.out⟩
set_option maxRecDepth 100000 in
set_option maxHeartbeats 2000000 in
theorem lawDo_put {b : Nat} {d : D} (F N : Int) (S : ByteArray) (a : Option Addr) (n c : Nat) (v : Value) (w : World) (h : DkIs w b d) (hr : RkIs w v d) (hab : rowOf v ≠ b) (hS : S.size ≤ 9223372036854775807) :
    Calls Try.prog 14 #[.pointer (some ⟨b, 0, none⟩), v, .agg #[.int .i64 1, .int .i64 F, .int .i64 N, .string S, .slice a n c]] w (LDo b (act d F (gPut (cutB S 60))).1 v w) := by
  obtain ⟨gb, off, cap, rfl, ha⟩ := hr
  have hgb : gb ≠ b := hab
  have HD := Lib.hid h
  have HA := Lib.hid ha
  have hbl := cell_lt h.room
  have CU := Lib.hid (fun w => cut_any S 60 w hS (by decide))
  have hcs := cutB_le S 60
  generalize cutB S 60 = s at *
  have HRK : Hid (∀ W, Gr w W → RkIs W (.agg #[.slice (some ⟨gb, off, none⟩) 4 cap, .int .i64 (d.room : Nat), .int .i64 ((d.fail : Nat) - 1)]) d) := Lib.hid fun W hW => ⟨gb, off, cap, rfl, HA.out.gr hW⟩
  generalize hr : ((d.room : Nat) : Int) = R at *
  generalize hf : ((d.fail : Nat) : Int) - 1 = fv at *
  have HR := Lib.hid hr
  have HF := Lib.hid hf
  have HNE : Hid (w.heap.size ≠ b ∧ w.heap.size + 1 ≠ b ∧ w.heap.size + 1 + 1 ≠ b) := Lib.hid ⟨by omega, by omega, by omega⟩
  obtain ⟨t4, t5, t6, tg⟩ := three w #[.slice (some ⟨gb, off, none⟩) 4 cap, .int .i64 R, .int .i64 fv] #[.int .i64 1, .int .i64 F, .int .i64 N, .string s, .slice a n c] #[.slice none 0 0, .int .i64 0, .int .i64 0] 28 34 28
  have HB4 := Lib.hid t4
  have HB5 := Lib.hid t5
  have HB6 := Lib.hid t6
  have HG := Lib.hid tg
  clear h ha hr hf t4 t5 t6 tg hbl
  obtain ⟨DD, q, hq⟩ : ∃ DD q, act d F (gPut s) = (DD, q) := ⟨_, _, rfl⟩
  rw [hq]
  have HQ := Lib.hid hq
  clear hq hab
  go_enter Try.func14, Try.ntmps14
  go_wp2_with fail
  refine (CU.out _).mono ?_
  rintro e w1 ⟨rfl, rfl⟩
  go_wp2_with fail
  generalize ((w.alloc (.cells #[.slice (some ⟨gb, off, none⟩) 4 cap, .int .i64 R, .int .i64 fv] 28)).alloc (.cells #[.int .i64 1, .int .i64 F, .int .i64 N, .string s, .slice a n c] 34)).alloc (.cells #[.slice none 0 0, .int .i64 0, .int .i64 0] 28) = w2 at *
  refine (put_any11 F s (by omega) _ (HD.out.gr HG.out)).mono ?_
  rintro e w3 hact
  unfold ActIs at hact
  rw [HQ.out] at hact
  obtain ⟨rfl, hd3, hs3⟩ := hact
  have HD3 := Lib.hid hd3
  have HS3 := Lib.hid ((Sole.of_gr (p := b) HG.out).trans hs3)
  have HB43 := Lib.hid (HB4.out.sole hs3 HNE.out.1)
  have HB53 := Lib.hid (HB5.out.sole hs3 HNE.out.2.1)
  have HB63 := Lib.hid (HB6.out.sole hs3 HNE.out.2.2)
  have HA3 := Lib.hid ((HA.out.gr HG.out).sole hs3 (by have := cell_lt (HA.out 0 (by decide)).1; exact hgb))
  clear hd3 hs3
  have d0 : w3.cell? ⟨w.heap.size, 0, none⟩ = some (.slice (some ⟨gb, off, none⟩) 4 cap) := HB43.out.cell rfl
  have d1 : w3.cell? ⟨w.heap.size, 1, none⟩ = some (.int .i64 R) := HB43.out.cell rfl
  have d2 : w3.cell? ⟨w.heap.size, 2, none⟩ = some (.int .i64 fv) := HB43.out.cell rfl
  have a1 : w3.cell? ⟨w.heap.size + 1, 1, none⟩ = some (.int .i64 F) := HB53.out.cell rfl
  have a2 : w3.cell? ⟨w.heap.size + 1, 2, none⟩ = some (.int .i64 N) := HB53.out.cell rfl
  have a3 : w3.cell? ⟨w.heap.size + 1, 3, none⟩ = some (.string s) := HB53.out.cell rfl
  have a4 : w3.cell? ⟨w.heap.size + 1, 4, none⟩ = some (.slice a n c) := HB53.out.cell rfl
  go_wp2_with fail
  have hrk3 : RkIs w3 (.agg #[.slice (some ⟨gb, off, none⟩) 4 cap, .int .i64 R, .int .i64 fv]) d := ⟨gb, off, cap, by rw [HR.out, HF.out], HA3.out⟩
  refine (refDo_put F s (by omega) _ _ hrk3 HD.out.ok).mono ?_
  rintro e w4 hdo
  unfold RDo at hdo
  rw [HQ.out] at hdo
  obtain ⟨v4, rfl, hr4, hg4, hn4⟩ := hdo
  obtain ⟨g4, off4, cap4, rfl, ha4⟩ := hr4
  have HN4 : Hid (g4 = gb ∨ w.heap.size ≤ g4) := Lib.hid (hn4.imp id (fun h => Nat.le_trans HS3.out.size h))
  have HA4 := Lib.hid ha4
  have HD4 := Lib.hid (HD3.out.gr hg4)
  have HB44 := Lib.hid (HB43.out.gr hg4)
  have HB64 := Lib.hid (HB63.out.gr hg4)
  have HS4 := Lib.hid (HS3.out.trans (Sole.of_gr hg4))
  generalize hR4 : ((DD.room : Nat) : Int) = R4 at *
  generalize hF4 : ((DD.fail : Nat) : Int) - 1 = F4 at *
  have HR4 := Lib.hid hR4
  have HF4 := Lib.hid hF4
  clear hR4 hF4 ha4 hg4 hrk3 hn4
  have HST := Lib.hid (stored (d := DD) (R := R4) (fv := F4) (cap := cap4) HB44.out HA4.out)
  have HB65 := Lib.hid (HB64.out.sole (store3_sole w4 w.heap.size (.slice (some ⟨g4, off4, none⟩) 4 cap4) (.int .i64 R4) (.int .i64 F4)) (by omega))
  have HSU := Lib.hid (stored (d := DD) (R := R4) (fv := F4) (cap := cap4) HB65.out HST.out.2)
  have HD6 := Lib.hid ((HD4.out.sole (store3_sole w4 w.heap.size (.slice (some ⟨g4, off4, none⟩) 4 cap4) (.int .i64 R4) (.int .i64 F4)) HNE.out.1.symm).sole (store3_sole _ (w.heap.size + 1 + 1) (.slice (some ⟨g4, off4, none⟩) 4 cap4) (.int .i64 R4) (.int .i64 F4)) HNE.out.2.2.symm)
  have HS6 := Lib.hid ((HS4.out.new (store3_sole w4 w.heap.size (.slice (some ⟨g4, off4, none⟩) 4 cap4) (.int .i64 R4) (.int .i64 F4)) (by omega)).new (store3_sole _ (w.heap.size + 1 + 1) (.slice (some ⟨g4, off4, none⟩) 4 cap4) (.int .i64 R4) (.int .i64 F4)) (by omega))
  have b0 : w4.cell? ⟨w.heap.size, 0, none⟩ = some (.slice (some ⟨gb, off, none⟩) 4 cap) := HB44.out.cell rfl
  have b1 : w4.cell? ⟨w.heap.size, 1, none⟩ = some (.int .i64 R) := HB44.out.cell rfl
  have b2 : w4.cell? ⟨w.heap.size, 2, none⟩ = some (.int .i64 fv) := HB44.out.cell rfl
  have f0 := HB44.out.free 0
  have f1 := HB44.out.free 1
  have f2 := HB44.out.free 2
  have x0 := HST.out.1.cell (i := 0) (v := .slice (some ⟨g4, off4, none⟩) 4 cap4) rfl
  have x1 := HST.out.1.cell (i := 1) (v := .int .i64 R4) rfl
  have x2 := HST.out.1.cell (i := 2) (v := .int .i64 F4) rfl
  have y0 := HB65.out.cell (i := 0) (v := .slice none 0 0) rfl
  have y1 := HB65.out.cell (i := 1) (v := .int .i64 0) rfl
  have y2 := HB65.out.cell (i := 2) (v := .int .i64 0) rfl
  have h0 := HB65.out.free 0
  have h1 := HB65.out.free 1
  have h2 := HB65.out.free 2
  clear d0 d1 d2 a1 a2 a3 a4
  go_wp2
  have r0 := HSU.out.1.cell (i := 0) (v := .slice (some ⟨g4, off4, none⟩) 4 cap4) rfl
  have r1 := HSU.out.1.cell (i := 1) (v := .int .i64 R4) rfl
  have r2 := HSU.out.1.cell (i := 2) (v := .int .i64 F4) rfl
  refine bodyPost_ret (v := .tuple #[.agg #[.slice (some ⟨g4, off4, none⟩) 4 cap4, .int .i64 R4, .int .i64 F4], .bool true]) (by simp [results, Try.results14, go_sem, r0, r1, r2]; try rfl) rfl ?_
  exact ⟨_, rfl, HD6.out, ⟨g4, off4, cap4, by rw [HR4.out, HF4.out], HSU.out.2⟩, HS6.out, by exact HN4.out⟩
set_option maxRecDepth 100000 in
set_option maxHeartbeats 2000000 in
theorem lawDo_sync {b : Nat} {d : D} (F N : Int) (S : ByteArray) (a : Option Addr) (n c : Nat) (v : Value) (w : World) (h : DkIs w b d) (hr : RkIs w v d) (hab : rowOf v ≠ b) (hS : S.size ≤ 9223372036854775807) :
    Calls Try.prog 14 #[.pointer (some ⟨b, 0, none⟩), v, .agg #[.int .i64 2, .int .i64 F, .int .i64 N, .string S, .slice a n c]] w (LDo b (act d F gKeep).1 v w) := by
  obtain ⟨gb, off, cap, rfl, ha⟩ := hr
  have hgb : gb ≠ b := hab
  have HD := Lib.hid h
  have HA := Lib.hid ha
  have hbl := cell_lt h.room
  have CU := Lib.hid (fun w => cut_any S 60 w hS (by decide))
  have hcs := cutB_le S 60
  generalize cutB S 60 = s at *
  have HRK : Hid (∀ W, Gr w W → RkIs W (.agg #[.slice (some ⟨gb, off, none⟩) 4 cap, .int .i64 (d.room : Nat), .int .i64 ((d.fail : Nat) - 1)]) d) := Lib.hid fun W hW => ⟨gb, off, cap, rfl, HA.out.gr hW⟩
  generalize hr : ((d.room : Nat) : Int) = R at *
  generalize hf : ((d.fail : Nat) : Int) - 1 = fv at *
  have HR := Lib.hid hr
  have HF := Lib.hid hf
  have HNE : Hid (w.heap.size ≠ b ∧ w.heap.size + 1 ≠ b ∧ w.heap.size + 1 + 1 ≠ b) := Lib.hid ⟨by omega, by omega, by omega⟩
  obtain ⟨t4, t5, t6, tg⟩ := three w #[.slice (some ⟨gb, off, none⟩) 4 cap, .int .i64 R, .int .i64 fv] #[.int .i64 2, .int .i64 F, .int .i64 N, .string s, .slice a n c] #[.slice none 0 0, .int .i64 0, .int .i64 0] 28 34 28
  have HB4 := Lib.hid t4
  have HB5 := Lib.hid t5
  have HB6 := Lib.hid t6
  have HG := Lib.hid tg
  clear h ha hr hf t4 t5 t6 tg hbl
  obtain ⟨DD, q, hq⟩ : ∃ DD q, act d F gKeep = (DD, q) := ⟨_, _, rfl⟩
  rw [hq]
  have HQ := Lib.hid hq
  clear hq hab
  go_enter Try.func14, Try.ntmps14
  go_wp2_with fail
  refine (CU.out _).mono ?_
  rintro e w1 ⟨rfl, rfl⟩
  go_wp2_with fail
  generalize ((w.alloc (.cells #[.slice (some ⟨gb, off, none⟩) 4 cap, .int .i64 R, .int .i64 fv] 28)).alloc (.cells #[.int .i64 2, .int .i64 F, .int .i64 N, .string s, .slice a n c] 34)).alloc (.cells #[.slice none 0 0, .int .i64 0, .int .i64 0] 28) = w2 at *
  refine (sync_any11 F _ (HD.out.gr HG.out)).mono ?_
  rintro e w3 hact
  unfold ActIs at hact
  rw [HQ.out] at hact
  obtain ⟨rfl, hd3, hs3⟩ := hact
  have HD3 := Lib.hid hd3
  have HS3 := Lib.hid ((Sole.of_gr (p := b) HG.out).trans hs3)
  have HB43 := Lib.hid (HB4.out.sole hs3 HNE.out.1)
  have HB53 := Lib.hid (HB5.out.sole hs3 HNE.out.2.1)
  have HB63 := Lib.hid (HB6.out.sole hs3 HNE.out.2.2)
  have HA3 := Lib.hid ((HA.out.gr HG.out).sole hs3 (by have := cell_lt (HA.out 0 (by decide)).1; exact hgb))
  clear hd3 hs3
  have d0 : w3.cell? ⟨w.heap.size, 0, none⟩ = some (.slice (some ⟨gb, off, none⟩) 4 cap) := HB43.out.cell rfl
  have d1 : w3.cell? ⟨w.heap.size, 1, none⟩ = some (.int .i64 R) := HB43.out.cell rfl
  have d2 : w3.cell? ⟨w.heap.size, 2, none⟩ = some (.int .i64 fv) := HB43.out.cell rfl
  have a1 : w3.cell? ⟨w.heap.size + 1, 1, none⟩ = some (.int .i64 F) := HB53.out.cell rfl
  have a2 : w3.cell? ⟨w.heap.size + 1, 2, none⟩ = some (.int .i64 N) := HB53.out.cell rfl
  have a3 : w3.cell? ⟨w.heap.size + 1, 3, none⟩ = some (.string s) := HB53.out.cell rfl
  have a4 : w3.cell? ⟨w.heap.size + 1, 4, none⟩ = some (.slice a n c) := HB53.out.cell rfl
  go_wp2_with fail
  have hrk3 : RkIs w3 (.agg #[.slice (some ⟨gb, off, none⟩) 4 cap, .int .i64 R, .int .i64 fv]) d := ⟨gb, off, cap, by rw [HR.out, HF.out], HA3.out⟩
  refine (refDo_sync_any F _ _ _ hrk3 HD.out.ok).mono ?_
  rintro e w4 hdo
  unfold RDo at hdo
  rw [HQ.out] at hdo
  obtain ⟨v4, rfl, hr4, hg4, hn4⟩ := hdo
  obtain ⟨g4, off4, cap4, rfl, ha4⟩ := hr4
  have HN4 : Hid (g4 = gb ∨ w.heap.size ≤ g4) := Lib.hid (hn4.imp id (fun h => Nat.le_trans HS3.out.size h))
  have HA4 := Lib.hid ha4
  have HD4 := Lib.hid (HD3.out.gr hg4)
  have HB44 := Lib.hid (HB43.out.gr hg4)
  have HB64 := Lib.hid (HB63.out.gr hg4)
  have HS4 := Lib.hid (HS3.out.trans (Sole.of_gr hg4))
  generalize hR4 : ((DD.room : Nat) : Int) = R4 at *
  generalize hF4 : ((DD.fail : Nat) : Int) - 1 = F4 at *
  have HR4 := Lib.hid hR4
  have HF4 := Lib.hid hF4
  clear hR4 hF4 ha4 hg4 hrk3 hn4
  have HST := Lib.hid (stored (d := DD) (R := R4) (fv := F4) (cap := cap4) HB44.out HA4.out)
  have HB65 := Lib.hid (HB64.out.sole (store3_sole w4 w.heap.size (.slice (some ⟨g4, off4, none⟩) 4 cap4) (.int .i64 R4) (.int .i64 F4)) (by omega))
  have HSU := Lib.hid (stored (d := DD) (R := R4) (fv := F4) (cap := cap4) HB65.out HST.out.2)
  have HD6 := Lib.hid ((HD4.out.sole (store3_sole w4 w.heap.size (.slice (some ⟨g4, off4, none⟩) 4 cap4) (.int .i64 R4) (.int .i64 F4)) HNE.out.1.symm).sole (store3_sole _ (w.heap.size + 1 + 1) (.slice (some ⟨g4, off4, none⟩) 4 cap4) (.int .i64 R4) (.int .i64 F4)) HNE.out.2.2.symm)
  have HS6 := Lib.hid ((HS4.out.new (store3_sole w4 w.heap.size (.slice (some ⟨g4, off4, none⟩) 4 cap4) (.int .i64 R4) (.int .i64 F4)) (by omega)).new (store3_sole _ (w.heap.size + 1 + 1) (.slice (some ⟨g4, off4, none⟩) 4 cap4) (.int .i64 R4) (.int .i64 F4)) (by omega))
  have b0 : w4.cell? ⟨w.heap.size, 0, none⟩ = some (.slice (some ⟨gb, off, none⟩) 4 cap) := HB44.out.cell rfl
  have b1 : w4.cell? ⟨w.heap.size, 1, none⟩ = some (.int .i64 R) := HB44.out.cell rfl
  have b2 : w4.cell? ⟨w.heap.size, 2, none⟩ = some (.int .i64 fv) := HB44.out.cell rfl
  have f0 := HB44.out.free 0
  have f1 := HB44.out.free 1
  have f2 := HB44.out.free 2
  have x0 := HST.out.1.cell (i := 0) (v := .slice (some ⟨g4, off4, none⟩) 4 cap4) rfl
  have x1 := HST.out.1.cell (i := 1) (v := .int .i64 R4) rfl
  have x2 := HST.out.1.cell (i := 2) (v := .int .i64 F4) rfl
  have y0 := HB65.out.cell (i := 0) (v := .slice none 0 0) rfl
  have y1 := HB65.out.cell (i := 1) (v := .int .i64 0) rfl
  have y2 := HB65.out.cell (i := 2) (v := .int .i64 0) rfl
  have h0 := HB65.out.free 0
  have h1 := HB65.out.free 1
  have h2 := HB65.out.free 2
  clear d0 d1 d2 a1 a2 a3 a4
  go_wp2
  have r0 := HSU.out.1.cell (i := 0) (v := .slice (some ⟨g4, off4, none⟩) 4 cap4) rfl
  have r1 := HSU.out.1.cell (i := 1) (v := .int .i64 R4) rfl
  have r2 := HSU.out.1.cell (i := 2) (v := .int .i64 F4) rfl
  refine bodyPost_ret (v := .tuple #[.agg #[.slice (some ⟨g4, off4, none⟩) 4 cap4, .int .i64 R4, .int .i64 F4], .bool true]) (by simp [results, Try.results14, go_sem, r0, r1, r2]; try rfl) rfl ?_
  exact ⟨_, rfl, HD6.out, ⟨g4, off4, cap4, by rw [HR4.out, HF4.out], HSU.out.2⟩, HS6.out, by exact HN4.out⟩
end Go.Proofs.Ytjllnojhhlkpoaa
