import Derived.Test.YtfgkgpkaohkehaaGreatDoorK25
import Derived.Test.YtfgkgpkaohkehaaGreatDoorK16
import Derived.WalkKit
import Derived.ProofKit
import Derived.LoopTactic
import Derived.Outline
import Derived.WalkSpells
import Derived.WalkLawsBesides
import Derived.Lib.Hide
import Derived.Deep.LoopGhost
import Derived.Deep.QuietTactic
import Derived.BigQuiet
import Derived.ShutString
import Derived.IntWalk
import Derived.Deep.MidRow
import Derived.Deep.CutRange
import Derived.Test.YtfgkgpkaohkehaaGreatDoorK17
import Derived.Deep.AppendLies
import Derived.Test.YtfgkgpkaohkehaaGreatDoorF02f
namespace Go.Proofs.YtfgkgpkaohkehaaGreatDoor
open Go.ChangeShapes Go.WideShapes Go.ChangeAt Go.RowKit
open Enc Bal
set_option linter.unusedVariables false
set_option linter.unusedSimpArgs false
theorem Blk.only {w w' : World} {p b : Nat} {cs : Array Value} {t : TypeId} (h : Blk w b cs t) (ho : Only p w w') (hb : b ≠ p) : Blk w' b cs t := (ho.block b h.lt hb).trans h
theorem Only.grown {p : Nat} {w w' : World} (h : Only p w w') : w.grownBy w' (some p) := ⟨h.os, h.tape, h.output, h.size, fun k hk hn => h.block k hk (fun e => hn (by rw [e]))⟩
theorem ownsRow_only {w w' : World} {p base k n : Nat} {t : TypeId} {v : Value} {xs : List Value} (h : w.ownsRow base t k v n xs) (ho : Only p w w') (hb : v.ownBlock ≠ some p) : w'.ownsRow base t k v n xs := h.kept ho.grown (.inr hb)
theorem nN_to {p : Nat} {r a : ByteArray} {e b c : Nat} {most : Int} (h : nS r e most = (a, b, c)) (hb : most ≤ 9223372036854775807) (w : World) (hR : RdIs w p r e) :
    Calls Tryz.prog 55 #[.pointer (some ⟨p, 0, none⟩), .int .i64 most] w fun en w' => en = .returned (.int .i64 (c : Int)) ∧ RdIs w' p a b ∧ Only p w w' := by
  refine (rN_any p r e most hb w hR).mono ?_
  intro en w' hu
  exact nIs_is (Lib.hid h) hu
theorem bB_to {p : Nat} {r a : ByteArray} {e b : Nat} {c : Bool} (h : bS r e = (a, b, c)) (w : World) (hR : RdIs w p r e) :
    Calls Tryz.prog 57 #[.pointer (some ⟨p, 0, none⟩)] w fun en w' => en = .returned (.bool c) ∧ RdIs w' p a b ∧ Only p w w' := by
  refine (rB_any p r e w hR).mono ?_
  intro en w' hu
  unfold BIs at hu
  rwa [h] at hu
theorem sS_to {p : Nat} {r a c : ByteArray} {e b : Nat} {most : Int} (h : sS r e most = (a, b, c)) (hb : most ≤ 9223372036854775807) (hr : r.size ≤ 1000000000) (w : World) (hR : RdIs w p r e) :
    Calls Tryz.prog 58 #[.pointer (some ⟨p, 0, none⟩), .int .i64 most] w fun en w' => en = .returned (.string c) ∧ RdIs w' p a b ∧ Only p w w' := by
  refine (rS_any p r e most hb hr w hR).mono ?_
  intro en w' hu
  unfold SIs at hu
  rwa [h] at hu
theorem rd_put {w : World} {p c : Nat} {ms : List Value} {r : ByteArray} {e : Nat} (h : RdIs w p r e) (hg : w.grownBy (w.setCells c 0 ms) (some c)) (hp : p ≠ c) : RdIs (w.setCells c 0 ms) p r e := by
  obtain ⟨h0, h1, f0, f1, hr⟩ := h
  have hb := hg.block p (cell_lt h0) (fun e => hp (Option.some.inj e))
  exact ⟨(World.cell?_of_block (w := w) (a := ⟨p, 0, none⟩) hb).trans h0, (World.cell?_of_block (w := w) (a := ⟨p, 1, none⟩) hb).trans h1, (World.frozen?_of_block (w := w) (a := ⟨p, 0, none⟩) hb).trans f0, (World.frozen?_of_block (w := w) (a := ⟨p, 1, none⟩) hb).trans f1, hr⟩
theorem only_put {w w1 : World} {p c : Nat} {ms : List Value} (h : Only p w w1) (hg : w1.grownBy (w1.setCells c 0 ms) (some c)) (hc : w.heap.size ≤ c) : Only p w (w1.setCells c 0 ms) :=
  ⟨hg.os.trans h.os, hg.tape.trans h.tape, hg.output.trans h.output, Nat.le_trans h.size hg.size, fun k hk hp => (hg.block k (Nat.lt_of_lt_of_le hk h.size) (fun e => by have := Option.some.inj e; omega)).trans (h.block k hk hp)⟩
set_option maxRecDepth 100000 in
set_option maxHeartbeats 4000000 in
theorem readEntry_any {p : Nat} {r a b c tx : ByteArray} {e e1 e2 e3 sl c0 n0 : Nat} {last : Int} (h1 : nS r e 1099511627776 = (a, e1, sl)) (h2 : getS a (if (sl : Int) ≤ last then failE e1 4 else e1) = (b, e2, c0, n0)) (h3 : sS b e2 400 = (c, e3, tx)) (hr : b.size ≤ 1000000000) (w : World) (hR : RdIs w p r e) :
    Calls Tryz.prog 59 #[.pointer (some ⟨p, 0, none⟩), .int .i64 last] w fun en w' => en = .returned (.agg #[.int .i64 (sl : Int), .int .u64 (c0 : Int), .int .i64 (n0 : Int), .string tx]) ∧ RdIs w' p c e3 ∧ Only p w w' := by
  have hp : p < w.heap.size := cell_lt hR.1
  have N := Lib.hid fun w9 (h : RdIs w9 p r e) => nN_to h1 (by decide) w9 h
  have G := Lib.hid fun w9 (h : RdIs w9 p a (if (sl : Int) ≤ last then failE e1 4 else e1)) => get_to h2 w9 h
  have SS := Lib.hid fun w9 (h : RdIs w9 p b e2) => sS_to h3 (by decide) hr w9 h
  have FL := Lib.hid fun w9 (h : RdIs w9 p a e1) => rfail_any p 4 a e1 4 rfl w9 h
  have HZ := (Gr.refl w).alloc (.cells #[.int .i64 0, .int .u64 0, .int .i64 0, .string ⟨#[]⟩] 74)
  have HZ2 := HZ.alloc (.cells #[.int .i64 0, .int .u64 0, .int .i64 0, .string ⟨#[]⟩] 74)
  have HR := Lib.hid (hR.gr HZ2)
  have HO := Lib.hid (Only.of_gr (p := p) HZ2)
  have HB1 := Lib.hid ((Blk.new w #[.int .i64 0, .int .u64 0, .int .i64 0, .string ⟨#[]⟩] 74).gr ((Gr.refl _).alloc (.cells #[.int .i64 0, .int .u64 0, .int .i64 0, .string ⟨#[]⟩] 74)))
  have HB2 := Lib.hid (Blk.new (w.alloc (.cells #[.int .i64 0, .int .u64 0, .int .i64 0, .string ⟨#[]⟩] 74)) #[.int .i64 0, .int .u64 0, .int .i64 0, .string ⟨#[]⟩] 74)
  rw [show (w.alloc (.cells #[.int .i64 0, .int .u64 0, .int .i64 0, .string ⟨#[]⟩] 74)).heap.size = w.heap.size + 1 by simp] at HB2
  clear h1 h2 h3 hR HZ HZ2
  go_enter Tryz.func59, Tryz.ntmps59
  go_wp2_with fail
  generalize (w.alloc (.cells #[.int .i64 0, .int .u64 0, .int .i64 0, .string ⟨#[]⟩] 74)).alloc (.cells #[.int .i64 0, .int .u64 0, .int .i64 0, .string ⟨#[]⟩] 74) = wa at *
  have hqp : w.heap.size ≠ p := by omega
  have hmp : w.heap.size + 1 ≠ p := by omega
  have hqm : w.heap.size ≠ w.heap.size + 1 := by omega
  have HWQ := Lib.hid (Nat.le_refl w.heap.size)
  have HWM := Lib.hid (show w.heap.size ≤ w.heap.size + 1 by omega)
  refine (N.out _ HR.out).mono ?_
  rintro en w1 ⟨rfl, hR1, hO1⟩
  replace HR := Lib.hid hR1
  replace HO := Lib.hid (HO.out.trans hO1)
  replace HB1 := Lib.hid (HB1.out.only hO1 hqp)
  replace HB2 := Lib.hid (HB2.out.only hO1 hmp)
  clear hR1 hO1 N
  have m0 := HB2.out.cell (i := 0) rfl
  have f0 := HB2.out.free 0
  have HB2s := Lib.hid (HB2.out.set 0 (.int .i64 (sl : Int)))
  have HB1s := Lib.hid (HB1.out.other hqm 0 (.int .i64 (sl : Int)))
  have HRs := Lib.hid (rd_set HR.out (Ne.symm hmp) (o := 0) (.int .i64 (sl : Int)))
  have HOs := Lib.hid (HO.out.setNew HWM.out (o := 0) (.int .i64 (sl : Int)))
  by_cases hle : (sl : Int) ≤ last
  · rw [if_pos hle] at G
    go_wp2_with fail
    clear m0 f0
    generalize w1.setCell ⟨w.heap.size + 1, 0, none⟩ (.int .i64 (sl : Int)) = w2 at *
    refine (FL.out _ HRs.out).mono ?_
    rintro en w3 ⟨rfl, hR1, hO1⟩
    replace HR := Lib.hid hR1
    replace HO := Lib.hid (HOs.out.trans hO1)
    replace HB1 := Lib.hid (HB1s.out.only hO1 hqp)
    replace HB2 := Lib.hid (HB2s.out.only hO1 hmp)
    clear hR1 hO1 FL HB2s HB1s HRs HOs
    go_wp2_with fail
    refine (G.out _ HR.out).mono ?_
    rintro en w4 ⟨rfl, hR1, hO1⟩
    replace HR := Lib.hid hR1
    replace HO := Lib.hid (HO.out.trans hO1)
    replace HB1 := Lib.hid (HB1.out.only hO1 hqp)
    replace HB2 := Lib.hid (HB2.out.only hO1 hmp)
    clear hR1 hO1 G
    have m1 := HB2.out.cell (i := 1) rfl
    have f1 := HB2.out.free 1
    have m2 := HB2.out.cell (i := 2) rfl
    have f2 := HB2.out.free 2
    replace HB2 := Lib.hid ((HB2.out.set 1 (.int .u64 (c0 : Int))).set 2 (.int .i64 (n0 : Int)))
    replace HB1 := Lib.hid ((HB1.out.other hqm 1 (.int .u64 (c0 : Int))).other hqm 2 (.int .i64 (n0 : Int)))
    replace HR := Lib.hid (rd_set (rd_set HR.out (Ne.symm hmp) (o := 1) (.int .u64 (c0 : Int))) (Ne.symm hmp) (o := 2) (.int .i64 (n0 : Int)))
    replace HO := Lib.hid ((HO.out.setNew HWM.out (o := 1) (.int .u64 (c0 : Int))).setNew HWM.out (o := 2) (.int .i64 (n0 : Int)))
    go_wp2_with fail
    clear m1 f1 m2 f2
    generalize ((w4.setCell ⟨w.heap.size + 1, 1, none⟩ (.int .u64 (c0 : Int))).setCell ⟨w.heap.size + 1, 2, none⟩ (.int .i64 (n0 : Int))) = w5 at *
    refine (SS.out _ HR.out).mono ?_
    rintro en w6 ⟨rfl, hR1, hO1⟩
    replace HR := Lib.hid hR1
    replace HO := Lib.hid (HO.out.trans hO1)
    replace HB1 := Lib.hid (HB1.out.only hO1 hqp)
    replace HB2 := Lib.hid (HB2.out.only hO1 hmp)
    clear hR1 hO1 SS
    have m3 := HB2.out.cell (i := 3) rfl
    have f3 := HB2.out.free 3
    replace HB2 := Lib.hid (show Blk _ _ #[.int .i64 (sl : Int), .int .u64 (c0 : Int), .int .i64 (n0 : Int), .string tx] _ from HB2.out.set 3 (.string tx))
    replace HB1 := Lib.hid (HB1.out.other hqm 3 (.string tx))
    replace HR := Lib.hid (rd_set HR.out (Ne.symm hmp) (o := 3) (.string tx))
    replace HO := Lib.hid (HO.out.setNew HWM.out (o := 3) (.string tx))
    go_upto_region 7 with fail
    clear m3 f3
    generalize w6.setCell ⟨w.heap.size + 1, 3, none⟩ (.string tx) = w7 at *
    have z0 := HB1.out.cell (i := 0) rfl
    have z1 := HB1.out.cell (i := 1) rfl
    have z2 := HB1.out.cell (i := 2) rfl
    have z3 := HB1.out.cell (i := 3) rfl
    have g0 := HB1.out.free 0
    have g1 := HB1.out.free 1
    have g2 := HB1.out.free 2
    have g3 := HB1.out.free 3
    have m0 := HB2.out.cell (i := 0) rfl
    have m1 := HB2.out.cell (i := 1) rfl
    have m2 := HB2.out.cell (i := 2) rfl
    have m3 := HB2.out.cell (i := 3) rfl
    obtain ⟨ms, hms, hmsl, hT, hOO, hgr, hBl⟩ := blk_put HB1.out #[.int .i64 (sl : Int), .int .u64 (c0 : Int), .int .i64 (n0 : Int), .string tx] rfl (by intro u hu; simp only [List.mem_cons, List.not_mem_nil, or_false] at hu; rcases hu with rfl | rfl | rfl | rfl <;> rfl)
    have HRF := Lib.hid (show RdIs (w7.setCells w.heap.size 0 ms) p c e3 from rd_put HR.out hgr (Ne.symm hqp))
    have HOF := Lib.hid (show Only p w (w7.setCells w.heap.size 0 ms) from only_put HO.out hgr HWQ.out)
    have HMS := Lib.hid hms
    have HML := Lib.hid hmsl
    have HTT := Lib.hid hT
    have HO2 := Lib.hid hOO
    have y0 := hBl.cell (i := 0) rfl
    have y1 := hBl.cell (i := 1) rfl
    have y2 := hBl.cell (i := 2) rfl
    have y3 := hBl.cell (i := 3) rfl
    clear hms hmsl hT hOO hgr hBl z0 z1 z2 z3 g0 g1 g2 g3 HB1 HB2 HR HO
    go_wp2_with (first | (refine wpList_store_mid rfl 74 (.tmp 4) (.tmp 21) (by rfl) w.heap.size 0 ms.toArray (by rfl) (by exact HMS.out) HTT.out (by rw [HML.out]; kernel_rfl) HO2.out ?_))
    exact bodyPost_ret (v := .agg #[.int .i64 (sl : Int), .int .u64 (c0 : Int), .int .i64 (n0 : Int), .string tx]) (by simp [results, Tryz.results59, go_sem, y0, y1, y2, y3]; try rfl) rfl ⟨rfl, HRF.out, HOF.out⟩
  · rw [if_neg hle] at G
    go_wp2_with fail
    clear m0 f0 FL HB1 HB2 HR HO
    generalize w1.setCell ⟨w.heap.size + 1, 0, none⟩ (.int .i64 (sl : Int)) = w2 at *
    have HB1 := HB1s
    have HB2 := HB2s
    have HR := HRs
    have HO := HOs
    clear HB1s HB2s HRs HOs
    refine (G.out _ HR.out).mono ?_
    rintro en w4 ⟨rfl, hR1, hO1⟩
    replace HR := Lib.hid hR1
    replace HO := Lib.hid (HO.out.trans hO1)
    replace HB1 := Lib.hid (HB1.out.only hO1 hqp)
    replace HB2 := Lib.hid (HB2.out.only hO1 hmp)
    clear hR1 hO1 G
    have m1 := HB2.out.cell (i := 1) rfl
    have f1 := HB2.out.free 1
    have m2 := HB2.out.cell (i := 2) rfl
    have f2 := HB2.out.free 2
    replace HB2 := Lib.hid ((HB2.out.set 1 (.int .u64 (c0 : Int))).set 2 (.int .i64 (n0 : Int)))
    replace HB1 := Lib.hid ((HB1.out.other hqm 1 (.int .u64 (c0 : Int))).other hqm 2 (.int .i64 (n0 : Int)))
    replace HR := Lib.hid (rd_set (rd_set HR.out (Ne.symm hmp) (o := 1) (.int .u64 (c0 : Int))) (Ne.symm hmp) (o := 2) (.int .i64 (n0 : Int)))
    replace HO := Lib.hid ((HO.out.setNew HWM.out (o := 1) (.int .u64 (c0 : Int))).setNew HWM.out (o := 2) (.int .i64 (n0 : Int)))
    go_wp2_with fail
    clear m1 f1 m2 f2
    generalize ((w4.setCell ⟨w.heap.size + 1, 1, none⟩ (.int .u64 (c0 : Int))).setCell ⟨w.heap.size + 1, 2, none⟩ (.int .i64 (n0 : Int))) = w5 at *
    refine (SS.out _ HR.out).mono ?_
    rintro en w6 ⟨rfl, hR1, hO1⟩
    replace HR := Lib.hid hR1
    replace HO := Lib.hid (HO.out.trans hO1)
    replace HB1 := Lib.hid (HB1.out.only hO1 hqp)
    replace HB2 := Lib.hid (HB2.out.only hO1 hmp)
    clear hR1 hO1 SS
    have m3 := HB2.out.cell (i := 3) rfl
    have f3 := HB2.out.free 3
    replace HB2 := Lib.hid (show Blk _ _ #[.int .i64 (sl : Int), .int .u64 (c0 : Int), .int .i64 (n0 : Int), .string tx] _ from HB2.out.set 3 (.string tx))
    replace HB1 := Lib.hid (HB1.out.other hqm 3 (.string tx))
    replace HR := Lib.hid (rd_set HR.out (Ne.symm hmp) (o := 3) (.string tx))
    replace HO := Lib.hid (HO.out.setNew HWM.out (o := 3) (.string tx))
    go_upto_region 7 with fail
    clear m3 f3
    generalize w6.setCell ⟨w.heap.size + 1, 3, none⟩ (.string tx) = w7 at *
    have z0 := HB1.out.cell (i := 0) rfl
    have z1 := HB1.out.cell (i := 1) rfl
    have z2 := HB1.out.cell (i := 2) rfl
    have z3 := HB1.out.cell (i := 3) rfl
    have g0 := HB1.out.free 0
    have g1 := HB1.out.free 1
    have g2 := HB1.out.free 2
    have g3 := HB1.out.free 3
    have m0 := HB2.out.cell (i := 0) rfl
    have m1 := HB2.out.cell (i := 1) rfl
    have m2 := HB2.out.cell (i := 2) rfl
    have m3 := HB2.out.cell (i := 3) rfl
    obtain ⟨ms, hms, hmsl, hT, hOO, hgr, hBl⟩ := blk_put HB1.out #[.int .i64 (sl : Int), .int .u64 (c0 : Int), .int .i64 (n0 : Int), .string tx] rfl (by intro u hu; simp only [List.mem_cons, List.not_mem_nil, or_false] at hu; rcases hu with rfl | rfl | rfl | rfl <;> rfl)
    have HRF := Lib.hid (show RdIs (w7.setCells w.heap.size 0 ms) p c e3 from rd_put HR.out hgr (Ne.symm hqp))
    have HOF := Lib.hid (show Only p w (w7.setCells w.heap.size 0 ms) from only_put HO.out hgr HWQ.out)
    have HMS := Lib.hid hms
    have HML := Lib.hid hmsl
    have HTT := Lib.hid hT
    have HO2 := Lib.hid hOO
    have y0 := hBl.cell (i := 0) rfl
    have y1 := hBl.cell (i := 1) rfl
    have y2 := hBl.cell (i := 2) rfl
    have y3 := hBl.cell (i := 3) rfl
    clear hms hmsl hT hOO hgr hBl z0 z1 z2 z3 g0 g1 g2 g3 HB1 HB2 HR HO
    go_wp2_with (first | (refine wpList_store_mid rfl 74 (.tmp 4) (.tmp 21) (by rfl) w.heap.size 0 ms.toArray (by rfl) (by exact HMS.out) HTT.out (by rw [HML.out]; kernel_rfl) HO2.out ?_))
    exact bodyPost_ret (v := .agg #[.int .i64 (sl : Int), .int .u64 (c0 : Int), .int .i64 (n0 : Int), .string tx]) (by simp [results, Tryz.results59, go_sem, y0, y1, y2, y3]; try rfl) rfl ⟨rfl, HRF.out, HOF.out⟩
end Go.Proofs.YtfgkgpkaohkehaaGreatDoor
namespace Go.Proofs.YtfgkgpkaohkehaaGreatDoor
open Go.ChangeShapes Go.WideShapes Go.ChangeAt Go.RowKit
open Enc Bal
set_option linter.unusedVariables false
set_option linter.unusedSimpArgs false
theorem rd_grown {w w' : World} {p : Nat} {b : Option Nat} {r : ByteArray} {e : Nat} (h : RdIs w p r e) (hg : w.grownBy w' b) (hp : b ≠ some p) : RdIs w' p r e := by
  obtain ⟨h0, h1, f0, f1, hr⟩ := h
  have hb := hg.block p (cell_lt h0) (fun e => hp e.symm)
  exact ⟨(World.cell?_of_block (w := w) (a := ⟨p, 0, none⟩) hb).trans h0, (World.cell?_of_block (w := w) (a := ⟨p, 1, none⟩) hb).trans h1, (World.frozen?_of_block (w := w) (a := ⟨p, 0, none⟩) hb).trans f0, (World.frozen?_of_block (w := w) (a := ⟨p, 1, none⟩) hb).trans f1, hr⟩
theorem only_grown {w w1 w' : World} {p : Nat} {b : Option Nat} (h : Only p w w1) (hg : w1.grownBy w' b) (hb : ∀ k, b = some k → w.heap.size ≤ k) : Only p w w' :=
  ⟨hg.os.trans h.os, hg.tape.trans h.tape, hg.output.trans h.output, Nat.le_trans h.size hg.size, fun k hk hp => (hg.block k (Nat.lt_of_lt_of_le hk h.size) (fun e => by have := hb k e.symm; omega)).trans (h.block k hk hp)⟩
set_option maxRecDepth 100000 in
set_option maxHeartbeats 8000000 in
theorem read10_any {p : Nat} {r0 r1 r2 r3 r4 r5 r6 r7 r8 r9 text : ByteArray} {e1 e2 e3 e4 e5 e6 e7 e8 e9 frm tt sub c n slot time cnt : Nat} {ok : Bool}
    (h1 : nS r0 0 11 = (r1, e1, frm)) (h2 : nS r1 e1 11 = (r2, e2, tt)) (h3 : nS r2 e2 3 = (r3, e3, sub)) (h4 : getS r3 e3 = (r4, e4, c, n)) (h5 : nS r4 e4 1099511627776 = (r5, e5, slot)) (h6 : nS r5 e5 1099511627776 = (r6, e6, time)) (h7 : bS r6 e6 = (r7, e7, ok)) (h8 : sS r7 e7 131072 = (r8, e8, text)) (h9 : nS r8 e8 64 = (r9, e9, cnt))
    (hr7 : r7.size ≤ 1000000000) (hr9 : r9.size ≤ 1000000000) (hc : cnt ≤ 64) (w : World) (hR : RdIs w p r0 0) :
    Calls Tryz.prog 27 #[.pointer (some ⟨p, 0, none⟩)] w fun en w' => ∃ a q, en = .returned (.agg #[.int .i64 0, .int .i64 (frm : Int), .int .i64 (tt : Int), .int .i64 (sub : Int), .int .u64 (c : Int), .int .i64 (n : Int), .int .i64 (slot : Int), .int .i64 (time : Int), .bool ok, .string text, .slice a cnt q]) ∧ RdIs w' p (entsR r9 e9 cnt).r (entsR r9 e9 cnt).e ∧ Only p w w' ∧ w'.ownsRow w.heap.size 74 4 (.slice a cnt q) cnt (rcells encE (entsR r9 e9 cnt).L) := by
  obtain ⟨i0, hi0, hz0, hz1, hz2⟩ : ∃ i0 : TypeInfo, Tryz.prog.info? 74 = some i0 ∧ i0.zero = some (.agg #[.int .i64 0, .int .u64 0, .int .i64 0, .string ⟨#[]⟩]) ∧ i0.size = 4 ∧ i0.bytes = 40 := ⟨_, rfl, rfl, rfl, rfl⟩
  have hp : p < w.heap.size := cell_lt hR.1
  have N1 := Lib.hid fun w9 (h : RdIs w9 p r0 0) => nN_to h1 (by decide) w9 h
  have N2 := Lib.hid fun w9 (h : RdIs w9 p r1 e1) => nN_to h2 (by decide) w9 h
  have N3 := Lib.hid fun w9 (h : RdIs w9 p r2 e2) => nN_to h3 (by decide) w9 h
  have G4 := Lib.hid fun w9 (h : RdIs w9 p r3 e3) => get_to h4 w9 h
  have N5 := Lib.hid fun w9 (h : RdIs w9 p r4 e4) => nN_to h5 (by decide) w9 h
  have N6 := Lib.hid fun w9 (h : RdIs w9 p r5 e5) => nN_to h6 (by decide) w9 h
  have B7 := Lib.hid fun w9 (h : RdIs w9 p r6 e6) => bB_to h7 w9 h
  have S8 := Lib.hid fun w9 (h : RdIs w9 p r7 e7) => sS_to h8 (by decide) hr7 w9 h
  have N9 := Lib.hid fun w9 (h : RdIs w9 p r8 e8) => nN_to h9 (by decide) w9 h
  have HZ := (Gr.refl w).alloc (.cells #[.int .i64 0, .int .i64 0, .int .i64 0, .int .i64 0, .int .u64 0, .int .i64 0, .int .i64 0, .int .i64 0, .bool false, .string ⟨#[]⟩, .slice none 0 0] 41)
  have HZ2 := HZ.alloc (.cells #[.int .i64 0, .int .i64 0, .int .i64 0, .int .i64 0, .int .u64 0, .int .i64 0, .int .i64 0, .int .i64 0, .bool false, .string ⟨#[]⟩, .slice none 0 0] 41)
  have HR := Lib.hid (hR.gr HZ2)
  have HO := Lib.hid (Only.of_gr (p := p) HZ2)
  have HQ := Lib.hid ((Blk.new w #[.int .i64 0, .int .i64 0, .int .i64 0, .int .i64 0, .int .u64 0, .int .i64 0, .int .i64 0, .int .i64 0, .bool false, .string ⟨#[]⟩, .slice none 0 0] 41).gr ((Gr.refl _).alloc (.cells #[.int .i64 0, .int .i64 0, .int .i64 0, .int .i64 0, .int .u64 0, .int .i64 0, .int .i64 0, .int .i64 0, .bool false, .string ⟨#[]⟩, .slice none 0 0] 41)))
  have HM := Lib.hid (Blk.new (w.alloc (.cells #[.int .i64 0, .int .i64 0, .int .i64 0, .int .i64 0, .int .u64 0, .int .i64 0, .int .i64 0, .int .i64 0, .bool false, .string ⟨#[]⟩, .slice none 0 0] 41)) #[.int .i64 0, .int .i64 0, .int .i64 0, .int .i64 0, .int .u64 0, .int .i64 0, .int .i64 0, .int .i64 0, .bool false, .string ⟨#[]⟩, .slice none 0 0] 41)
  rw [show (w.alloc (.cells #[.int .i64 0, .int .i64 0, .int .i64 0, .int .i64 0, .int .u64 0, .int .i64 0, .int .i64 0, .int .i64 0, .bool false, .string ⟨#[]⟩, .slice none 0 0] 41)).heap.size = w.heap.size + 1 by simp] at HM
  have HR9 := Lib.hid hr9
  clear h1 h2 h3 h4 h5 h6 h7 h8 h9 hR HZ HZ2 hr7 hr9
  have hqp : w.heap.size ≠ p := by omega
  have hmp : w.heap.size + 1 ≠ p := by omega
  have hqm : w.heap.size ≠ w.heap.size + 1 := by omega
  have HWQ := Lib.hid (Nat.le_refl w.heap.size)
  have HWM := Lib.hid (show w.heap.size ≤ w.heap.size + 1 by omega)
  go_enter Tryz.func27, Tryz.ntmps27
  go_wp2_with fail
  generalize (w.alloc (.cells #[.int .i64 0, .int .i64 0, .int .i64 0, .int .i64 0, .int .u64 0, .int .i64 0, .int .i64 0, .int .i64 0, .bool false, .string ⟨#[]⟩, .slice none 0 0] 41)).alloc (.cells #[.int .i64 0, .int .i64 0, .int .i64 0, .int .i64 0, .int .u64 0, .int .i64 0, .int .i64 0, .int .i64 0, .bool false, .string ⟨#[]⟩, .slice none 0 0] 41) = wa at *
  refine (N1.out _ HR.out).mono ?_
  rintro en v1 ⟨rfl, hR1, hO1⟩
  replace HR := Lib.hid hR1
  replace HO := Lib.hid (HO.out.trans hO1)
  replace HQ := Lib.hid (HQ.out.only hO1 hqp)
  replace HM := Lib.hid (HM.out.only hO1 hmp)
  clear hR1 hO1 N1
  go_wp2_with fail
  refine (N2.out _ HR.out).mono ?_
  rintro en v2 ⟨rfl, hR1, hO1⟩
  replace HR := Lib.hid hR1
  replace HO := Lib.hid (HO.out.trans hO1)
  replace HQ := Lib.hid (HQ.out.only hO1 hqp)
  replace HM := Lib.hid (HM.out.only hO1 hmp)
  clear hR1 hO1 N2
  go_wp2_with fail
  refine (N3.out _ HR.out).mono ?_
  rintro en v3 ⟨rfl, hR1, hO1⟩
  replace HR := Lib.hid hR1
  replace HO := Lib.hid (HO.out.trans hO1)
  replace HQ := Lib.hid (HQ.out.only hO1 hqp)
  replace HM := Lib.hid (HM.out.only hO1 hmp)
  clear hR1 hO1 N3
  have m1 := HM.out.cell (i := 1) rfl
  have f1 := HM.out.free 1
  have m2 := HM.out.cell (i := 2) rfl
  have f2 := HM.out.free 2
  have m3 := HM.out.cell (i := 3) rfl
  have f3 := HM.out.free 3
  replace HQ := Lib.hid (HQ.out.other hqm 1 (.int .i64 (frm : Int)))
  replace HM := Lib.hid (HM.out.set 1 (.int .i64 (frm : Int)))
  replace HR := Lib.hid (rd_set HR.out (Ne.symm hmp) (o := 1) (.int .i64 (frm : Int)))
  replace HO := Lib.hid (HO.out.setNew HWM.out (o := 1) (.int .i64 (frm : Int)))
  replace HQ := Lib.hid (HQ.out.other hqm 2 (.int .i64 (tt : Int)))
  replace HM := Lib.hid (HM.out.set 2 (.int .i64 (tt : Int)))
  replace HR := Lib.hid (rd_set HR.out (Ne.symm hmp) (o := 2) (.int .i64 (tt : Int)))
  replace HO := Lib.hid (HO.out.setNew HWM.out (o := 2) (.int .i64 (tt : Int)))
  replace HQ := Lib.hid (HQ.out.other hqm 3 (.int .i64 (sub : Int)))
  replace HM := Lib.hid (HM.out.set 3 (.int .i64 (sub : Int)))
  replace HR := Lib.hid (rd_set HR.out (Ne.symm hmp) (o := 3) (.int .i64 (sub : Int)))
  replace HO := Lib.hid (HO.out.setNew HWM.out (o := 3) (.int .i64 (sub : Int)))
  replace HM := Lib.hid (show Blk _ _ #[.int .i64 0, .int .i64 (frm : Int), .int .i64 (tt : Int), .int .i64 (sub : Int), .int .u64 0, .int .i64 0, .int .i64 0, .int .i64 0, .bool false, .string ⟨#[]⟩, .slice none 0 0] _ from HM.out)
  go_wp2_with fail
  clear m1 f1 m2 f2 m3 f3
  generalize (((v3.setCell ⟨w.heap.size + 1, 1, none⟩ (.int .i64 (frm : Int))).setCell ⟨w.heap.size + 1, 2, none⟩ (.int .i64 (tt : Int))).setCell ⟨w.heap.size + 1, 3, none⟩ (.int .i64 (sub : Int))) = v4 at *
  refine (G4.out _ HR.out).mono ?_
  rintro en v5 ⟨rfl, hR1, hO1⟩
  replace HR := Lib.hid hR1
  replace HO := Lib.hid (HO.out.trans hO1)
  replace HQ := Lib.hid (HQ.out.only hO1 hqp)
  replace HM := Lib.hid (HM.out.only hO1 hmp)
  clear hR1 hO1 G4
  have m4 := HM.out.cell (i := 4) rfl
  have f4 := HM.out.free 4
  have m5 := HM.out.cell (i := 5) rfl
  have f5 := HM.out.free 5
  replace HQ := Lib.hid (HQ.out.other hqm 4 (.int .u64 (c : Int)))
  replace HM := Lib.hid (HM.out.set 4 (.int .u64 (c : Int)))
  replace HR := Lib.hid (rd_set HR.out (Ne.symm hmp) (o := 4) (.int .u64 (c : Int)))
  replace HO := Lib.hid (HO.out.setNew HWM.out (o := 4) (.int .u64 (c : Int)))
  replace HQ := Lib.hid (HQ.out.other hqm 5 (.int .i64 (n : Int)))
  replace HM := Lib.hid (HM.out.set 5 (.int .i64 (n : Int)))
  replace HR := Lib.hid (rd_set HR.out (Ne.symm hmp) (o := 5) (.int .i64 (n : Int)))
  replace HO := Lib.hid (HO.out.setNew HWM.out (o := 5) (.int .i64 (n : Int)))
  replace HM := Lib.hid (show Blk _ _ #[.int .i64 0, .int .i64 (frm : Int), .int .i64 (tt : Int), .int .i64 (sub : Int), .int .u64 (c : Int), .int .i64 (n : Int), .int .i64 0, .int .i64 0, .bool false, .string ⟨#[]⟩, .slice none 0 0] _ from HM.out)
  go_wp2_with fail
  clear m4 f4 m5 f5
  generalize ((v5.setCell ⟨w.heap.size + 1, 4, none⟩ (.int .u64 (c : Int))).setCell ⟨w.heap.size + 1, 5, none⟩ (.int .i64 (n : Int))) = v6 at *
  refine (N5.out _ HR.out).mono ?_
  rintro en v7 ⟨rfl, hR1, hO1⟩
  replace HR := Lib.hid hR1
  replace HO := Lib.hid (HO.out.trans hO1)
  replace HQ := Lib.hid (HQ.out.only hO1 hqp)
  replace HM := Lib.hid (HM.out.only hO1 hmp)
  clear hR1 hO1 N5
  go_wp2_with fail
  refine (N6.out _ HR.out).mono ?_
  rintro en v8 ⟨rfl, hR1, hO1⟩
  replace HR := Lib.hid hR1
  replace HO := Lib.hid (HO.out.trans hO1)
  replace HQ := Lib.hid (HQ.out.only hO1 hqp)
  replace HM := Lib.hid (HM.out.only hO1 hmp)
  clear hR1 hO1 N6
  have m6 := HM.out.cell (i := 6) rfl
  have f6 := HM.out.free 6
  have m7 := HM.out.cell (i := 7) rfl
  have f7 := HM.out.free 7
  replace HQ := Lib.hid (HQ.out.other hqm 6 (.int .i64 (slot : Int)))
  replace HM := Lib.hid (HM.out.set 6 (.int .i64 (slot : Int)))
  replace HR := Lib.hid (rd_set HR.out (Ne.symm hmp) (o := 6) (.int .i64 (slot : Int)))
  replace HO := Lib.hid (HO.out.setNew HWM.out (o := 6) (.int .i64 (slot : Int)))
  replace HQ := Lib.hid (HQ.out.other hqm 7 (.int .i64 (time : Int)))
  replace HM := Lib.hid (HM.out.set 7 (.int .i64 (time : Int)))
  replace HR := Lib.hid (rd_set HR.out (Ne.symm hmp) (o := 7) (.int .i64 (time : Int)))
  replace HO := Lib.hid (HO.out.setNew HWM.out (o := 7) (.int .i64 (time : Int)))
  replace HM := Lib.hid (show Blk _ _ #[.int .i64 0, .int .i64 (frm : Int), .int .i64 (tt : Int), .int .i64 (sub : Int), .int .u64 (c : Int), .int .i64 (n : Int), .int .i64 (slot : Int), .int .i64 (time : Int), .bool false, .string ⟨#[]⟩, .slice none 0 0] _ from HM.out)
  go_wp2_with fail
  clear m6 f6 m7 f7
  generalize ((v8.setCell ⟨w.heap.size + 1, 6, none⟩ (.int .i64 (slot : Int))).setCell ⟨w.heap.size + 1, 7, none⟩ (.int .i64 (time : Int))) = v9 at *
  refine (B7.out _ HR.out).mono ?_
  rintro en v10 ⟨rfl, hR1, hO1⟩
  replace HR := Lib.hid hR1
  replace HO := Lib.hid (HO.out.trans hO1)
  replace HQ := Lib.hid (HQ.out.only hO1 hqp)
  replace HM := Lib.hid (HM.out.only hO1 hmp)
  clear hR1 hO1 B7
  have m8 := HM.out.cell (i := 8) rfl
  have f8 := HM.out.free 8
  replace HQ := Lib.hid (HQ.out.other hqm 8 (.bool ok))
  replace HM := Lib.hid (HM.out.set 8 (.bool ok))
  replace HR := Lib.hid (rd_set HR.out (Ne.symm hmp) (o := 8) (.bool ok))
  replace HO := Lib.hid (HO.out.setNew HWM.out (o := 8) (.bool ok))
  replace HM := Lib.hid (show Blk _ _ #[.int .i64 0, .int .i64 (frm : Int), .int .i64 (tt : Int), .int .i64 (sub : Int), .int .u64 (c : Int), .int .i64 (n : Int), .int .i64 (slot : Int), .int .i64 (time : Int), .bool ok, .string ⟨#[]⟩, .slice none 0 0] _ from HM.out)
  go_wp2_with fail
  clear m8 f8
  generalize (v10.setCell ⟨w.heap.size + 1, 8, none⟩ (.bool ok)) = v11 at *
  refine (S8.out _ HR.out).mono ?_
  rintro en v12 ⟨rfl, hR1, hO1⟩
  replace HR := Lib.hid hR1
  replace HO := Lib.hid (HO.out.trans hO1)
  replace HQ := Lib.hid (HQ.out.only hO1 hqp)
  replace HM := Lib.hid (HM.out.only hO1 hmp)
  clear hR1 hO1 S8
  have m9 := HM.out.cell (i := 9) rfl
  have f9 := HM.out.free 9
  replace HQ := Lib.hid (HQ.out.other hqm 9 (.string text))
  replace HM := Lib.hid (HM.out.set 9 (.string text))
  replace HR := Lib.hid (rd_set HR.out (Ne.symm hmp) (o := 9) (.string text))
  replace HO := Lib.hid (HO.out.setNew HWM.out (o := 9) (.string text))
  replace HM := Lib.hid (show Blk _ _ #[.int .i64 0, .int .i64 (frm : Int), .int .i64 (tt : Int), .int .i64 (sub : Int), .int .u64 (c : Int), .int .i64 (n : Int), .int .i64 (slot : Int), .int .i64 (time : Int), .bool ok, .string text, .slice none 0 0] _ from HM.out)
  go_wp2_with fail
  clear m9 f9
  generalize (v12.setCell ⟨w.heap.size + 1, 9, none⟩ (.string text)) = v13 at *
  refine (N9.out _ HR.out).mono ?_
  rintro en v14 ⟨rfl, hR1, hO1⟩
  replace HR := Lib.hid hR1
  replace HO := Lib.hid (HO.out.trans hO1)
  replace HQ := Lib.hid (HQ.out.only hO1 hqp)
  replace HM := Lib.hid (HM.out.only hO1 hmp)
  clear hR1 hO1 N9
  replace HM := Lib.hid (show Blk _ _ #[.int .i64 0, .int .i64 (frm : Int), .int .i64 (tt : Int), .int .i64 (sub : Int), .int .u64 (c : Int), .int .i64 (n : Int), .int .i64 (slot : Int), .int .i64 (time : Int), .bool ok, .string text, .slice none 0 0] _ from HM.out)
  go_wp2
  go_loopw [4, 32] (fun u4 u32 wr => ∃ (k : Nat) (ua : Option Addr) (uc : Nat), k ≤ cnt ∧ u32 = .int .i64 (k : Nat) ∧ u4 = .int .i64 (entsR r9 e9 k).last ∧ Hid (RdIs wr p (entsR r9 e9 k).r (entsR r9 e9 k).e) ∧ Hid (Only p w wr) ∧ Hid (Blk wr w.heap.size #[.int .i64 0, .int .i64 0, .int .i64 0, .int .i64 0, .int .u64 0, .int .i64 0, .int .i64 0, .int .i64 0, .bool false, .string ⟨#[]⟩, .slice none 0 0] 41) ∧ Hid (Blk wr (w.heap.size + 1) #[.int .i64 0, .int .i64 (frm : Int), .int .i64 (tt : Int), .int .i64 (sub : Int), .int .u64 (c : Int), .int .i64 (n : Int), .int .i64 (slot : Int), .int .i64 (time : Int), .bool ok, .string text, .slice ua k uc] 41) ∧ Hid (wr.ownsRow w.heap.size 74 4 (.slice ua k uc) k (rcells encE (entsR r9 e9 k).L))) (fun _ u32 _ => cnt - (intOf u32).toNat)
  case atStart => exact ⟨0, none, 0, by omega, rfl, rfl, HR, HO, HQ, HM, Lib.hid (World.ownsRow_nil _ _ _ _)⟩
  case round =>
    clear HR HO HQ HM
    obtain ⟨k, ua, uc, hk, rfl, rfl, HR, HO, HQ, HM, HS⟩ := hrel
    by_cases hlt : k < cnt
    · have hk4 : (k : Int) < (cnt : Int) := by omega
      have hsl := entsR_left r9 e9 k
      have hE : entsR r9 e9 (k + 1) = entS (entsR r9 e9 k) := rfl
      have hLL := entsR_len r9 e9 k
      generalize entsR r9 e9 k = s at *
      obtain ⟨ra, ea, la, L⟩ := s
      simp only at hsl hLL HR HS
      obtain ⟨a1, x1, sl, q1⟩ : ∃ a b c, nS ra ea 1099511627776 = (a, b, c) := ⟨_, _, _, rfl⟩
      obtain ⟨a2, x2, c0, n0, q2⟩ : ∃ x y z u, getS a1 (if (sl : Int) ≤ la then failE x1 4 else x1) = (x, y, z, u) := ⟨_, _, _, _, rfl⟩
      obtain ⟨a3, x3, tx, q3⟩ : ∃ x y z, sS a2 x2 400 = (x, y, z) := ⟨_, _, _, rfl⟩
      have ha2 : a2.size ≤ 1000000000 := by
        have l1 := nS_left ra ea 1099511627776
        have l2 := getS_left a1 (if (sl : Int) ≤ la then failE x1 4 else x1)
        have l3 := HR9.out
        rw [q1] at l1; rw [q2] at l2; simp only at l1 l2; omega
      have HN := Lib.hid (show entsR r9 e9 (k + 1) = ⟨a3, x3, sl, L ++ [⟨sl, c0, n0, tx⟩]⟩ from by rw [hE, entS]; simp only; rw [entR_eq q1 q2 q3])
      have RE := Lib.hid fun w9 (h : RdIs w9 p ra ea) => readEntry_any q1 q2 q3 ha2 w9 h
      have HLN := Lib.hid hLL
      clear hsl hE hLL q1 q2 q3 ha2
      simp only
      go_wp2_with fail
      refine (RE.out _ HR.out).mono ?_
      rintro en w3 ⟨rfl, hR1, hO1⟩
      have hsp : (Value.slice ua k uc).ownBlock ≠ some p := fun e => by have := (HS.out.lt p e).1; omega
      have HGA := Lib.hid (((Gr.refl w3).alloc (.cells #[.int .i64 (sl : Int), .int .u64 (c0 : Int), .int .i64 (n0 : Int), .string tx] 74)).alloc (.cells #[.int .i64 (sl : Int), .int .u64 (c0 : Int), .int .i64 (n0 : Int), .string tx] 74))
      have HRa := Lib.hid (hR1.gr HGA.out)
      have HOa := Lib.hid ((HO.out.trans hO1).trans (Only.of_gr HGA.out))
      have HQa := Lib.hid ((HQ.out.only hO1 hqp).gr HGA.out)
      have HMa := Lib.hid ((HM.out.only hO1 hmp).gr HGA.out)
      have HSa := Lib.hid (ownsRow_gr HGA.out (ownsRow_only HS.out hO1 hsp))
      have HBE := Lib.hid (Blk.new w3 #[.int .i64 (sl : Int), .int .u64 (c0 : Int), .int .i64 (n0 : Int), .string tx] 74)
      have HBN := Lib.hid (show Blk ((w3.alloc (.cells #[.int .i64 (sl : Int), .int .u64 (c0 : Int), .int .i64 (n0 : Int), .string tx] 74)).alloc (.cells #[.int .i64 (sl : Int), .int .u64 (c0 : Int), .int .i64 (n0 : Int), .string tx] 74)) (w3.heap.size + 1) (encE ⟨sl, c0, n0, tx⟩).toArray 74 from by
        have := Blk.new (w3.alloc (.cells #[.int .i64 (sl : Int), .int .u64 (c0 : Int), .int .i64 (n0 : Int), .string tx] 74)) #[.int .i64 (sl : Int), .int .u64 (c0 : Int), .int .i64 (n0 : Int), .string tx] 74
        rwa [show (w3.alloc (.cells #[.int .i64 (sl : Int), .int .u64 (c0 : Int), .int .i64 (n0 : Int), .string tx] 74)).heap.size = w3.heap.size + 1 by simp] at this)
      have HONE := Lib.hid (encE_one ⟨sl, c0, n0, tx⟩)
      have m10 := ((HM.out.only hO1 hmp).gr ((Gr.refl w3).alloc (.cells #[.int .i64 (sl : Int), .int .u64 (c0 : Int), .int .i64 (n0 : Int), .string tx] 74))).cell (i := 10) rfl
      have HWS := Lib.hid (Nat.le_trans HO.out.size hO1.size)
      clear hR1 hO1 HR HO HQ HM HS RE
      go_wp2_with (at_builtin; go_loud (refine wpList_append_lies _ rfl (.tmp 40) (.tmp 42) 39 rfl w.heap.size 74 i0 (.agg #[.int .i64 0, .int .u64 0, .int .i64 0, .string ⟨#[]⟩]) 4 40 Tryz.underlying39 hi0 hz0 hz1 hz2 rfl (by decide) _ _ _ rfl HSa.out ⟨w3.heap.size + 1, 0, none⟩ 1 1 (encE ⟨sl, c0, n0, tx⟩) rfl rfl ?c1 ?c2 Nat.one_pos ?c3 ?c4 ?c5 _ rfl ?_))
      case c1 => exact fun j u hj => World.news_of_block HBN.out j u hj
      case c2 => exact HONE.out
      case c3 => unfold maxLen; omega
      case c4 => omega
      case c5 => have := HWS.out; simp; omega
      intro g7 cap7 w7 hown7 hgrow7 hat7 hlt7
      have HRb := Lib.hid (rd_grown HRa.out hgrow7 hsp)
      have HOb := Lib.hid (only_grown HOa.out hgrow7 fun k e => (HSa.out.lt k e).1)
      have HQb := Lib.hid (HQa.out.grownB hgrow7 (row_off HQa.out HSa.out (by decide)))
      have HMb := Lib.hid (HMa.out.grownB hgrow7 (row_off HMa.out HSa.out (by decide)))
      have HSb := Lib.hid hown7
      clear hown7 hgrow7 hat7 hlt7 HRa HOa HQa HMa HSa HGA HBE HBN m10
      have f10 := HMb.out.free 10
      have m10 := HMb.out.cell (i := 10) rfl
      have HMc := Lib.hid (HMb.out.set 10 (.slice (some ⟨g7, 0, none⟩) (k + 1) cap7))
      have HQc := Lib.hid (HQb.out.other hqm 10 (.slice (some ⟨g7, 0, none⟩) (k + 1) cap7))
      have HRc := Lib.hid (rd_set HRb.out (Ne.symm hmp) (o := 10) (.slice (some ⟨g7, 0, none⟩) (k + 1) cap7))
      have HOc := Lib.hid (HOb.out.setNew HWM.out (o := 10) (.slice (some ⟨g7, 0, none⟩) (k + 1) cap7))
      have HSc := Lib.hid (ownsRow_setCell_other (a := ⟨w.heap.size + 1, 10, none⟩) HSb.out (row_off HMb.out HSb.out (by decide)) (.slice (some ⟨g7, 0, none⟩) (k + 1) cap7))
      rw [← rcells_snoc] at HSc
      clear HRb HOb HQb HMb HSb
      go_wp2
      go_roundw
      case rel => exact ⟨k + 1, some ⟨g7, 0, none⟩, cap7, by omega, by go_num, by rw [HN.out], by rw [HN.out]; exact HRc, HOc, HQc, HMc, by rw [HN.out]; exact HSc⟩
      case measure => simp [intOf]; omega
    · have hk5 : ¬ (k : Int) < (cnt : Int) := by omega
      obtain rfl : k = cnt := by omega
      have m0 := HM.out.cell (i := 0) rfl
      have m1 := HM.out.cell (i := 1) rfl
      have m2 := HM.out.cell (i := 2) rfl
      have m3 := HM.out.cell (i := 3) rfl
      have m4 := HM.out.cell (i := 4) rfl
      have m5 := HM.out.cell (i := 5) rfl
      have m6 := HM.out.cell (i := 6) rfl
      have m7 := HM.out.cell (i := 7) rfl
      have m8 := HM.out.cell (i := 8) rfl
      have m9 := HM.out.cell (i := 9) rfl
      have m10 := HM.out.cell (i := 10) rfl
      obtain ⟨ms, hms, hmsl, hT, hOO, hgr, hBl⟩ := blk_put HQ.out #[.int .i64 0, .int .i64 (frm : Int), .int .i64 (tt : Int), .int .i64 (sub : Int), .int .u64 (c : Int), .int .i64 (n : Int), .int .i64 (slot : Int), .int .i64 (time : Int), .bool ok, .string text, .slice ua k uc] rfl (eleven_one _ _ _ _ _ _ _ _ _ _ _ _ _)
      have HRF := Lib.hid (rd_put HR.out hgr (Ne.symm hqp))
      have HOF := Lib.hid (only_put HO.out hgr HWQ.out)
      have HSF := Lib.hid (HS.out.kept hgr (.inr (row_off HQ.out HS.out (by decide))))
      have HMS := Lib.hid hms
      have HML := Lib.hid hmsl
      have HTT := Lib.hid hT
      have HO2 := Lib.hid hOO
      have y0 := hBl.cell (i := 0) rfl
      have y1 := hBl.cell (i := 1) rfl
      have y2 := hBl.cell (i := 2) rfl
      have y3 := hBl.cell (i := 3) rfl
      have y4 := hBl.cell (i := 4) rfl
      have y5 := hBl.cell (i := 5) rfl
      have y6 := hBl.cell (i := 6) rfl
      have y7 := hBl.cell (i := 7) rfl
      have y8 := hBl.cell (i := 8) rfl
      have y9 := hBl.cell (i := 9) rfl
      have y10 := hBl.cell (i := 10) rfl
      clear hms hmsl hT hOO hgr hBl HR HO HQ HM HS
      go_wp2_with (first | (refine wpList_store_mid rfl 41 (.tmp 2) (.tmp 46) (by rfl) w.heap.size 0 ms.toArray (by rfl) (by exact HMS.out) HTT.out (by rw [HML.out]; kernel_rfl) HO2.out ?_))
      exact bodyPost_ret (v := .agg #[.int .i64 0, .int .i64 (frm : Int), .int .i64 (tt : Int), .int .i64 (sub : Int), .int .u64 (c : Int), .int .i64 (n : Int), .int .i64 (slot : Int), .int .i64 (time : Int), .bool ok, .string text, .slice ua k uc]) (by simp [results, Tryz.results27, go_sem, y0, y1, y2, y3, y4, y5, y6, y7, y8, y9, y10]; try rfl) rfl ⟨ua, uc, rfl, HRF.out, HOF.out, HSF.out⟩
end Go.Proofs.YtfgkgpkaohkehaaGreatDoor
namespace Go.Proofs.YtfgkgpkaohkehaaGreatDoor
open Go.ChangeShapes Go.WideShapes Go.ChangeAt Go.RowKit
open Crc
set_option linter.unusedVariables false
/-- Frame by frame, from a place on: what stands in them, and the place behind them. -/
def scanB (s : ByteArray) : Nat → Nat → List (Nat × ByteArray) × Nat
  | 0, n => ([], n)
  | f + 1, n =>
    if (openB (s.extract n s.size)).2.2 = 0 then
      (((openB (s.extract n s.size)).1, (openB (s.extract n s.size)).2.1) :: (scanB s f (n + (openB (s.extract n s.size)).2.1.size + 8)).1, (scanB s f (n + (openB (s.extract n s.size)).2.1.size + 8)).2)
    else ([], n)
theorem scanB_stop (s : ByteArray) (f n : Nat) (h : (openB (s.extract n s.size)).2.2 ≠ 0) : scanB s f n = ([], n) := by
  cases f with
  | zero => rfl
  | succ f => rw [scanB, if_neg h]
theorem openB_ok (s : ByteArray) (k : Nat) (t : ByteArray) (h : openB s = (k, t, 0)) : t.size + 8 ≤ s.size ∧ k < 256 ∧ 1 ≤ k := by
  unfold openB at h
  split at h
  · simp at h
  · split at h
    · simp at h
    · split at h
      · simp at h
      · split at h
        · simp at h
        · split at h
          · simp at h
          · simp only [Prod.mk.injEq] at h
            obtain ⟨rfl, rfl, _⟩ := h
            have := bt_lt s 0
            simp
            omega
/-- The cells of the parts. -/
def partCells (l : List (Nat × ByteArray)) : List Value := l.flatMap fun p => [.int .u8 p.1, .string p.2]
theorem partCells_length (l : List (Nat × ByteArray)) : (partCells l).length = l.length * 2 := by
  induction l with
  | nil => rfl
  | cons p t ih => unfold partCells at *; simp [ih]; omega
theorem partCells_snoc (l : List (Nat × ByteArray)) (p : Nat × ByteArray) : partCells (l ++ [p]) = partCells l ++ [.int .u8 p.1, .string p.2] := by simp [partCells]
theorem open_is {s : ByteArray} {k : Nat} {t : ByteArray} {n : Nat} (h : openB s = (k, t, n)) {w w' : World} {e : Ending} (ho : OpenIs s w e w') :
    e = .returned (.tuple #[.int .u8 k, .string t, .int .i64 n]) ∧ Gr w w' := by
  unfold OpenIs at ho; rw [h] at ho; exact ho
theorem ropen_is {s : ByteArray} {k : Nat} {t : ByteArray} {n : Nat} (h : openB s = (k, t, n)) {w w' : World} {e : Ending} (ho : ROpenIs s w e w') :
    e = .returned (.tuple #[.agg #[.int .u8 k, .string t], .int .i64 n]) ∧ Gr w w' := by
  unfold ROpenIs at ho; rw [h] at ho; exact ho
theorem cells_two (w : World) (x y : Value) (t : TypeId) : ∀ (j : Nat) (u : Value), [x, y][j]? = some u → (w.alloc (.cells #[x, y] t)).cell? ((⟨w.heap.size, 0, none⟩ : Addr).add j) = some u := by
  intro j u hj
  match j, hj with
  | 0, hj => simp at hj; subst hj; exact new_cell rfl rfl
  | 1, hj => simp at hj; subst hj; exact new_cell rfl rfl
def ScanIs (E : TypeId) (s : ByteArray) (w : World) (e : Ending) (w' : World) : Prop :=
  ∃ v, e = .returned (.tuple #[v, .int .i64 (scanB s (s.size + 1) 0).2]) ∧ w'.ownsRow w.heap.size E 2 v (scanB s (s.size + 1) 0).1.length (partCells (scanB s (s.size + 1) 0).1) ∧ Gr w w'
theorem scanIs_mk {E : TypeId} {s : ByteArray} {w w' : World} {v : Value} {n : Nat} {L : List (Nat × ByteArray)} (h : Hid (scanB s (s.size + 1) 0 = (L, n))) (ho : w'.ownsRow w.heap.size E 2 v L.length (partCells L)) (hg : Gr w w') :
    ScanIs E s w (.returned (.tuple #[v, .int .i64 n])) w' := ⟨v, by rw [h.out], by rw [h.out]; exact ho, hg⟩
end Go.Proofs.YtfgkgpkaohkehaaGreatDoor
