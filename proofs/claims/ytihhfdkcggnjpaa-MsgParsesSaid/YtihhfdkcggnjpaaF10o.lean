import Derived.Test.YtihhfdkcggnjpaaK9
import Derived.Test.YtihhfdkcggnjpaaF16r
import Derived.Test.YtihhfdkcggnjpaaC35
import Derived.WalkKit
import Derived.ProofKit
import Derived.LoopTactic
import Derived.Outline
import Derived.WalkSpells
import Derived.WalkLawsBesides
import Derived.Lib.Hide
import Derived.Deep.LoopGhost
import Derived.Deep.QuietTactic
import Derived.BigQuiet
import Derived.ShutString
import Derived.IntWalk
import Derived.Deep.MidRow
import Derived.Deep.CutRange
namespace Go.Proofs.Ytihhfdkcggnjpaa
open Go.ChangeShapes Go.WideShapes Go.ChangeAt Go.RowKit
open Enc Bal
set_option linter.unusedVariables false
set_option linter.unusedSimpArgs false
theorem Blk.only {w w' : World} {p b : Nat} {cs : Array Value} {t : TypeId} (h : Blk w b cs t) (ho : Only p w w') (hb : b ≠ p) : Blk w' b cs t := (ho.block b h.lt hb).trans h
theorem Only.grown {p : Nat} {w w' : World} (h : Only p w w') : w.grownBy w' (some p) := ⟨h.os, h.tape, h.output, h.size, fun k hk hn => h.block k hk (fun e => hn (by rw [e]))⟩
theorem ownsRow_only {w w' : World} {p base k n : Nat} {t : TypeId} {v : Value} {xs : List Value} (h : w.ownsRow base t k v n xs) (ho : Only p w w') (hb : v.ownBlock ≠ some p) : w'.ownsRow base t k v n xs := h.kept ho.grown (.inr hb)
theorem nN_to {p : Nat} {r a : ByteArray} {e b c : Nat} {most : Int} (h : nS r e most = (a, b, c)) (hb : most ≤ 9223372036854775807) (w : World) (hR : RdIs w p r e) :
    Calls Try.prog 137 #[.pointer (some ⟨p, 0, none⟩), .int .i64 most] w fun en w' => en = .returned (.int .i64 (c : Int)) ∧ RdIs w' p a b ∧ Only p w w' := by
  refine (rN_any p r e most hb w hR).mono ?_
  intro en w' hu
  exact nIs_is (Lib.hid h) hu
theorem bB_to {p : Nat} {r a : ByteArray} {e b : Nat} {c : Bool} (h : bS r e = (a, b, c)) (w : World) (hR : RdIs w p r e) :
    Calls Try.prog 176 #[.pointer (some ⟨p, 0, none⟩)] w fun en w' => en = .returned (.bool c) ∧ RdIs w' p a b ∧ Only p w w' := by
  refine (rB_any p r e w hR).mono ?_
  intro en w' hu
  unfold BIs at hu
  rwa [h] at hu
theorem sS_to {p : Nat} {r a c : ByteArray} {e b : Nat} {most : Int} (h : sS r e most = (a, b, c)) (hb : most ≤ 9223372036854775807) (hr : r.size ≤ 1000000000) (w : World) (hR : RdIs w p r e) :
    Calls Try.prog 177 #[.pointer (some ⟨p, 0, none⟩), .int .i64 most] w fun en w' => en = .returned (.string c) ∧ RdIs w' p a b ∧ Only p w w' := by
  refine (rS_any p r e most hb hr w hR).mono ?_
  intro en w' hu
  unfold SIs at hu
  rwa [h] at hu
theorem rd_put {w : World} {p c : Nat} {ms : List Value} {r : ByteArray} {e : Nat} (h : RdIs w p r e) (hg : w.grownBy (w.setCells c 0 ms) (some c)) (hp : p ≠ c) : RdIs (w.setCells c 0 ms) p r e := by
  obtain ⟨h0, h1, f0, f1, hr⟩ := h
  have hb := hg.block p (cell_lt h0) (fun e => hp (Option.some.inj e))
  exact ⟨(World.cell?_of_block (w := w) (a := ⟨p, 0, none⟩) hb).trans h0, (World.cell?_of_block (w := w) (a := ⟨p, 1, none⟩) hb).trans h1, (World.frozen?_of_block (w := w) (a := ⟨p, 0, none⟩) hb).trans f0, (World.frozen?_of_block (w := w) (a := ⟨p, 1, none⟩) hb).trans f1, hr⟩
theorem only_put {w w1 : World} {p c : Nat} {ms : List Value} (h : Only p w w1) (hg : w1.grownBy (w1.setCells c 0 ms) (some c)) (hc : w.heap.size ≤ c) : Only p w (w1.setCells c 0 ms) :=
  ⟨hg.os.trans h.os, hg.tape.trans h.tape, hg.output.trans h.output, Nat.le_trans h.size hg.size, fun k hk hp => (hg.block k (Nat.lt_of_lt_of_le hk h.size) (fun e => by have := Option.some.inj e; omega)).trans (h.block k hk hp)⟩
set_option maxRecDepth 100000 in
set_option maxHeartbeats 4000000 in
theorem readEntry_any {p : Nat} {r a b c tx : ByteArray} {e e1 e2 e3 sl c0 n0 : Nat} {last : Int} (h1 : nS r e 1099511627776 = (a, e1, sl)) (h2 : getS a (if (sl : Int) ≤ last then failE e1 4 else e1) = (b, e2, c0, n0)) (h3 : sS b e2 400 = (c, e3, tx)) (hr : b.size ≤ 1000000000) (w : World) (hR : RdIs w p r e) :
    Calls Try.prog 178 #[.pointer (some ⟨p, 0, none⟩), .int .i64 last] w fun en w' => en = .returned (.agg #[.int .i64 (sl : Int), .int .u64 (c0 : Int), .int .i64 (n0 : Int), .string tx]) ∧ RdIs w' p c e3 ∧ Only p w w' := by
  have hp : p < w.heap.size := cell_lt hR.1
  have N := Lib.hid fun w9 (h : RdIs w9 p r e) => nN_to h1 (by decide) w9 h
  have G := Lib.hid fun w9 (h : RdIs w9 p a (if (sl : Int) ≤ last then failE e1 4 else e1)) => get_to h2 w9 h
  have SS := Lib.hid fun w9 (h : RdIs w9 p b e2) => sS_to h3 (by decide) hr w9 h
  have FL := Lib.hid fun w9 (h : RdIs w9 p a e1) => fail_any p 4 a e1 4 rfl w9 h
  have HZ := (Gr.refl w).alloc (.cells #[.int .i64 0, .int .u64 0, .int .i64 0, .string ⟨#[]⟩] 159)
  have HZ2 := HZ.alloc (.cells #[.int .i64 0, .int .u64 0, .int .i64 0, .string ⟨#[]⟩] 159)
  have HR := Lib.hid (hR.gr HZ2)
  have HO := Lib.hid (Only.of_gr (p := p) HZ2)
  have HB1 := Lib.hid ((Blk.new w #[.int .i64 0, .int .u64 0, .int .i64 0, .string ⟨#[]⟩] 159).gr ((Gr.refl _).alloc (.cells #[.int .i64 0, .int .u64 0, .int .i64 0, .string ⟨#[]⟩] 159)))
  have HB2 := Lib.hid (Blk.new (w.alloc (.cells #[.int .i64 0, .int .u64 0, .int .i64 0, .string ⟨#[]⟩] 159)) #[.int .i64 0, .int .u64 0, .int .i64 0, .string ⟨#[]⟩] 159)
  rw [show (w.alloc (.cells #[.int .i64 0, .int .u64 0, .int .i64 0, .string ⟨#[]⟩] 159)).heap.size = w.heap.size + 1 by simp] at HB2
  clear h1 h2 h3 hR HZ HZ2
  go_enter Try.func178, Try.ntmps178
  go_wp2_with fail
  generalize (w.alloc (.cells #[.int .i64 0, .int .u64 0, .int .i64 0, .string ⟨#[]⟩] 159)).alloc (.cells #[.int .i64 0, .int .u64 0, .int .i64 0, .string ⟨#[]⟩] 159) = wa at *
  have hqp : w.heap.size ≠ p := by omega
  have hmp : w.heap.size + 1 ≠ p := by omega
  have hqm : w.heap.size ≠ w.heap.size + 1 := by omega
  have HWQ := Lib.hid (Nat.le_refl w.heap.size)
  have HWM := Lib.hid (show w.heap.size ≤ w.heap.size + 1 by omega)
  refine (N.out _ HR.out).mono ?_
  rintro en w1 ⟨rfl, hR1, hO1⟩
  replace HR := Lib.hid hR1
  replace HO := Lib.hid (HO.out.trans hO1)
  replace HB1 := Lib.hid (HB1.out.only hO1 hqp)
  replace HB2 := Lib.hid (HB2.out.only hO1 hmp)
  clear hR1 hO1 N
  have m0 := HB2.out.cell (i := 0) rfl
  have f0 := HB2.out.free 0
  have HB2s := Lib.hid (HB2.out.set 0 (.int .i64 (sl : Int)))
  have HB1s := Lib.hid (HB1.out.other hqm 0 (.int .i64 (sl : Int)))
  have HRs := Lib.hid (rd_set HR.out (Ne.symm hmp) (o := 0) (.int .i64 (sl : Int)))
  have HOs := Lib.hid (HO.out.setNew HWM.out (o := 0) (.int .i64 (sl : Int)))
  by_cases hle : (sl : Int) ≤ last
  · rw [if_pos hle] at G
    go_wp2_with fail
    clear m0 f0
    generalize w1.setCell ⟨w.heap.size + 1, 0, none⟩ (.int .i64 (sl : Int)) = w2 at *
    refine (FL.out _ HRs.out).mono ?_
    rintro en w3 ⟨rfl, hR1, hO1⟩
    replace HR := Lib.hid hR1
    replace HO := Lib.hid (HOs.out.trans hO1)
    replace HB1 := Lib.hid (HB1s.out.only hO1 hqp)
    replace HB2 := Lib.hid (HB2s.out.only hO1 hmp)
    clear hR1 hO1 FL HB2s HB1s HRs HOs
    go_wp2_with fail
    refine (G.out _ HR.out).mono ?_
    rintro en w4 ⟨rfl, hR1, hO1⟩
    replace HR := Lib.hid hR1
    replace HO := Lib.hid (HO.out.trans hO1)
    replace HB1 := Lib.hid (HB1.out.only hO1 hqp)
    replace HB2 := Lib.hid (HB2.out.only hO1 hmp)
    clear hR1 hO1 G
    have m1 := HB2.out.cell (i := 1) rfl
    have f1 := HB2.out.free 1
    have m2 := HB2.out.cell (i := 2) rfl
    have f2 := HB2.out.free 2
    replace HB2 := Lib.hid ((HB2.out.set 1 (.int .u64 (c0 : Int))).set 2 (.int .i64 (n0 : Int)))
    replace HB1 := Lib.hid ((HB1.out.other hqm 1 (.int .u64 (c0 : Int))).other hqm 2 (.int .i64 (n0 : Int)))
    replace HR := Lib.hid (rd_set (rd_set HR.out (Ne.symm hmp) (o := 1) (.int .u64 (c0 : Int))) (Ne.symm hmp) (o := 2) (.int .i64 (n0 : Int)))
    replace HO := Lib.hid ((HO.out.setNew HWM.out (o := 1) (.int .u64 (c0 : Int))).setNew HWM.out (o := 2) (.int .i64 (n0 : Int)))
    go_wp2_with fail
    clear m1 f1 m2 f2
    generalize ((w4.setCell ⟨w.heap.size + 1, 1, none⟩ (.int .u64 (c0 : Int))).setCell ⟨w.heap.size + 1, 2, none⟩ (.int .i64 (n0 : Int))) = w5 at *
    refine (SS.out _ HR.out).mono ?_
    rintro en w6 ⟨rfl, hR1, hO1⟩
    replace HR := Lib.hid hR1
    replace HO := Lib.hid (HO.out.trans hO1)
    replace HB1 := Lib.hid (HB1.out.only hO1 hqp)
    replace HB2 := Lib.hid (HB2.out.only hO1 hmp)
    clear hR1 hO1 SS
    have m3 := HB2.out.cell (i := 3) rfl
    have f3 := HB2.out.free 3
    replace HB2 := Lib.hid (show Blk _ _ #[.int .i64 (sl : Int), .int .u64 (c0 : Int), .int .i64 (n0 : Int), .string tx] _ from HB2.out.set 3 (.string tx))
    replace HB1 := Lib.hid (HB1.out.other hqm 3 (.string tx))
    replace HR := Lib.hid (rd_set HR.out (Ne.symm hmp) (o := 3) (.string tx))
    replace HO := Lib.hid (HO.out.setNew HWM.out (o := 3) (.string tx))
    go_upto_region 7 with fail
    clear m3 f3
    generalize w6.setCell ⟨w.heap.size + 1, 3, none⟩ (.string tx) = w7 at *
    have z0 := HB1.out.cell (i := 0) rfl
    have z1 := HB1.out.cell (i := 1) rfl
    have z2 := HB1.out.cell (i := 2) rfl
    have z3 := HB1.out.cell (i := 3) rfl
    have g0 := HB1.out.free 0
    have g1 := HB1.out.free 1
    have g2 := HB1.out.free 2
    have g3 := HB1.out.free 3
    have m0 := HB2.out.cell (i := 0) rfl
    have m1 := HB2.out.cell (i := 1) rfl
    have m2 := HB2.out.cell (i := 2) rfl
    have m3 := HB2.out.cell (i := 3) rfl
    obtain ⟨ms, hms, hmsl, hT, hOO, hgr, hBl⟩ := blk_put HB1.out #[.int .i64 (sl : Int), .int .u64 (c0 : Int), .int .i64 (n0 : Int), .string tx] rfl (by intro u hu; simp only [List.mem_cons, List.not_mem_nil, or_false] at hu; rcases hu with rfl | rfl | rfl | rfl <;> rfl)
    have HRF := Lib.hid (show RdIs (w7.setCells w.heap.size 0 ms) p c e3 from rd_put HR.out hgr (Ne.symm hqp))
    have HOF := Lib.hid (show Only p w (w7.setCells w.heap.size 0 ms) from only_put HO.out hgr HWQ.out)
    have HMS := Lib.hid hms
    have HML := Lib.hid hmsl
    have HTT := Lib.hid hT
    have HO2 := Lib.hid hOO
    have y0 := hBl.cell (i := 0) rfl
    have y1 := hBl.cell (i := 1) rfl
    have y2 := hBl.cell (i := 2) rfl
    have y3 := hBl.cell (i := 3) rfl
    clear hms hmsl hT hOO hgr hBl z0 z1 z2 z3 g0 g1 g2 g3 HB1 HB2 HR HO
    go_wp2_with (first | (refine wpList_store_mid rfl 159 (.tmp 4) (.tmp 21) (by rfl) w.heap.size 0 ms.toArray (by rfl) (by exact HMS.out) HTT.out (by rw [HML.out]; kernel_rfl) HO2.out ?_))
    exact bodyPost_ret (v := .agg #[.int .i64 (sl : Int), .int .u64 (c0 : Int), .int .i64 (n0 : Int), .string tx]) (by simp [results, Try.results178, go_sem, y0, y1, y2, y3]; try rfl) rfl ⟨rfl, HRF.out, HOF.out⟩
  · rw [if_neg hle] at G
    go_wp2_with fail
    clear m0 f0 FL HB1 HB2 HR HO
    generalize w1.setCell ⟨w.heap.size + 1, 0, none⟩ (.int .i64 (sl : Int)) = w2 at *
    have HB1 := HB1s
    have HB2 := HB2s
    have HR := HRs
    have HO := HOs
    clear HB1s HB2s HRs HOs
    refine (G.out _ HR.out).mono ?_
    rintro en w4 ⟨rfl, hR1, hO1⟩
    replace HR := Lib.hid hR1
    replace HO := Lib.hid (HO.out.trans hO1)
    replace HB1 := Lib.hid (HB1.out.only hO1 hqp)
    replace HB2 := Lib.hid (HB2.out.only hO1 hmp)
    clear hR1 hO1 G
    have m1 := HB2.out.cell (i := 1) rfl
    have f1 := HB2.out.free 1
    have m2 := HB2.out.cell (i := 2) rfl
    have f2 := HB2.out.free 2
    replace HB2 := Lib.hid ((HB2.out.set 1 (.int .u64 (c0 : Int))).set 2 (.int .i64 (n0 : Int)))
    replace HB1 := Lib.hid ((HB1.out.other hqm 1 (.int .u64 (c0 : Int))).other hqm 2 (.int .i64 (n0 : Int)))
    replace HR := Lib.hid (rd_set (rd_set HR.out (Ne.symm hmp) (o := 1) (.int .u64 (c0 : Int))) (Ne.symm hmp) (o := 2) (.int .i64 (n0 : Int)))
    replace HO := Lib.hid ((HO.out.setNew HWM.out (o := 1) (.int .u64 (c0 : Int))).setNew HWM.out (o := 2) (.int .i64 (n0 : Int)))
    go_wp2_with fail
    clear m1 f1 m2 f2
    generalize ((w4.setCell ⟨w.heap.size + 1, 1, none⟩ (.int .u64 (c0 : Int))).setCell ⟨w.heap.size + 1, 2, none⟩ (.int .i64 (n0 : Int))) = w5 at *
    refine (SS.out _ HR.out).mono ?_
    rintro en w6 ⟨rfl, hR1, hO1⟩
    replace HR := Lib.hid hR1
    replace HO := Lib.hid (HO.out.trans hO1)
    replace HB1 := Lib.hid (HB1.out.only hO1 hqp)
    replace HB2 := Lib.hid (HB2.out.only hO1 hmp)
    clear hR1 hO1 SS
    have m3 := HB2.out.cell (i := 3) rfl
    have f3 := HB2.out.free 3
    replace HB2 := Lib.hid (show Blk _ _ #[.int .i64 (sl : Int), .int .u64 (c0 : Int), .int .i64 (n0 : Int), .string tx] _ from HB2.out.set 3 (.string tx))
    replace HB1 := Lib.hid (HB1.out.other hqm 3 (.string tx))
    replace HR := Lib.hid (rd_set HR.out (Ne.symm hmp) (o := 3) (.string tx))
    replace HO := Lib.hid (HO.out.setNew HWM.out (o := 3) (.string tx))
    go_upto_region 7 with fail
    clear m3 f3
    generalize w6.setCell ⟨w.heap.size + 1, 3, none⟩ (.string tx) = w7 at *
    have z0 := HB1.out.cell (i := 0) rfl
    have z1 := HB1.out.cell (i := 1) rfl
    have z2 := HB1.out.cell (i := 2) rfl
    have z3 := HB1.out.cell (i := 3) rfl
    have g0 := HB1.out.free 0
    have g1 := HB1.out.free 1
    have g2 := HB1.out.free 2
    have g3 := HB1.out.free 3
    have m0 := HB2.out.cell (i := 0) rfl
    have m1 := HB2.out.cell (i := 1) rfl
    have m2 := HB2.out.cell (i := 2) rfl
    have m3 := HB2.out.cell (i := 3) rfl
    obtain ⟨ms, hms, hmsl, hT, hOO, hgr, hBl⟩ := blk_put HB1.out #[.int .i64 (sl : Int), .int .u64 (c0 : Int), .int .i64 (n0 : Int), .string tx] rfl (by intro u hu; simp only [List.mem_cons, List.not_mem_nil, or_false] at hu; rcases hu with rfl | rfl | rfl | rfl <;> rfl)
    have HRF := Lib.hid (show RdIs (w7.setCells w.heap.size 0 ms) p c e3 from rd_put HR.out hgr (Ne.symm hqp))
    have HOF := Lib.hid (show Only p w (w7.setCells w.heap.size 0 ms) from only_put HO.out hgr HWQ.out)
    have HMS := Lib.hid hms
    have HML := Lib.hid hmsl
    have HTT := Lib.hid hT
    have HO2 := Lib.hid hOO
    have y0 := hBl.cell (i := 0) rfl
    have y1 := hBl.cell (i := 1) rfl
    have y2 := hBl.cell (i := 2) rfl
    have y3 := hBl.cell (i := 3) rfl
    clear hms hmsl hT hOO hgr hBl z0 z1 z2 z3 g0 g1 g2 g3 HB1 HB2 HR HO
    go_wp2_with (first | (refine wpList_store_mid rfl 159 (.tmp 4) (.tmp 21) (by rfl) w.heap.size 0 ms.toArray (by rfl) (by exact HMS.out) HTT.out (by rw [HML.out]; kernel_rfl) HO2.out ?_))
    exact bodyPost_ret (v := .agg #[.int .i64 (sl : Int), .int .u64 (c0 : Int), .int .i64 (n0 : Int), .string tx]) (by simp [results, Try.results178, go_sem, y0, y1, y2, y3]; try rfl) rfl ⟨rfl, HRF.out, HOF.out⟩
end Go.Proofs.Ytihhfdkcggnjpaa
