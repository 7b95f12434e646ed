import Derived.Test.YtegapeplbincnaaDoorF09e
import Derived.WalkKit
import Derived.ProofKit
import Derived.LoopTactic
import Derived.Outline
import Derived.WalkSpells
import Derived.WalkLawsBesides
import Derived.Lib.Hide
import Derived.Deep.LoopGhost
import Derived.Deep.QuietTactic
import Derived.BigQuiet
import Derived.ShutString
import Derived.IntWalk
import Derived.Deep.RegionWith
import Derived.Deep.RegionHeld3
namespace Go.Proofs.YtegapeplbincnaaDoor
open Go.ChangeShapes Go.WideShapes Go.ChangeAt Go.RowKit
open Grids
set_option linter.unusedVariables false
set_option linter.unusedSimpArgs false
theorem vAdd_to {b r p W z1 n1 z2 n2 s s' : Nat} {f q : Bool} {n : Int} (R : Rgt r p W z1 n1 z2 n2) (wn : (Lit.int .i64 n).wf = true) (hf : freshB r p s n = q) (ha : addS r p s n = s') (w : World) (h : VtIs w b r p W z1 n1 z2 n2 f s) :
    Calls Tryd.prog 14 #[.pointer (some ⟨b, 0, none⟩), .int .i64 n] w fun e w' => e = .returned (.bool q) ∧ VtIs w' b r p W z1 n1 z2 n2 f s' ∧ Sole b w w' := by
  have := vAdd_any R n wn w h
  unfold AddIs at this
  rwa [hf, ha] at this
theorem vLeast_to {b r p W z1 n1 z2 n2 s k : Nat} {f : Bool} (R : Rgt r p W z1 n1 z2 n2) (hs : s < 2 ^ (r * p)) (hl : least r p (kz f z1 z2) (kz f n1 n2) s = k) (w : World) (h : VtIs w b r p W z1 n1 z2 n2 f s) (hT : TB w) :
    Calls Tryd.prog 18 #[.pointer (some ⟨b, 0, none⟩)] w fun e w' => e = .returned (.int .i64 (k : Nat)) ∧ Gr w w' := by
  have := vLeast_any R hs w h hT
  rwa [hl] at this
theorem vDone_to {b r p W z1 n1 z2 n2 s : Nat} {f q : Bool} (R : Rgt r p W z1 n1 z2 n2) (hq : isQ r p (kz f z1 z2) (kz f n1 n2) s = q) (w : World) (h : VtIs w b r p W z1 n1 z2 n2 f s) :
    Calls Tryd.prog 16 #[.pointer (some ⟨b, 0, none⟩)] w fun e w' => e = .returned (.bool q) ∧ Gr w w' := by
  have := vDone_any R w h
  rwa [hq] at this
theorem tb_ne {w : World} {b : Nat} (h : TB w) (hb : w.heap.size ≤ b) : 0 ≠ b := by
  have := cell_lt (h 0 (by decide))
  omega
set_option maxRecDepth 100000 in
set_option maxHeartbeats 1000000 in
theorem awake09_any (w : World) (hT : TB w) : Calls Tryd.prog 11 #[] w fun e w' => e = .returned (.bool true) ∧ Gr w w' := by
  have N := Lib.hid (vFirst_any 3 3 0 2 2 2 2 w)
  have L0 := Lib.hid (fun b => @vLeast_to b 3 3 0 2 2 2 2 0 4 true rgt33 (by decide) (by decide +kernel))
  have A0 := Lib.hid (fun b => @vAdd_to b 3 3 0 2 2 2 2 0 1 true true 0 rgt33 (by decide) (by decide +kernel) (by decide +kernel))
  have A1 := Lib.hid (fun b => @vAdd_to b 3 3 0 2 2 2 2 1 3 true true 1 rgt33 (by decide) (by decide +kernel) (by decide +kernel))
  have A3 := Lib.hid (fun b => @vAdd_to b 3 3 0 2 2 2 2 3 11 true true 3 rgt33 (by decide) (by decide +kernel) (by decide +kernel))
  have A4 := Lib.hid (fun b => @vAdd_to b 3 3 0 2 2 2 2 11 11 true false 3 rgt33 (by decide) (by decide +kernel) (by decide +kernel))
  have L1 := Lib.hid (fun b => @vLeast_to b 3 3 0 2 2 2 2 11 1 true rgt33 (by decide) (by decide +kernel))
  have D1 := Lib.hid (fun b => @vDone_to b 3 3 0 2 2 2 2 11 true false rgt33 (by decide +kernel))
  have HT := Lib.hid hT
  clear hT
  go_enter Tryd.func11, Tryd.ntmps11
  go_wp2_with fail
  refine N.out.mono ?_
  rintro e w1 ⟨b, rfl, hb, hV, hg⟩
  have HV := Lib.hid hV
  have HG := Lib.hid hg
  have HB := Lib.hid hb
  have HT1 := Lib.hid (HT.out.gr hg)
  have HNE := Lib.hid (tb_ne HT.out hb)
  clear hV hg hb
  go_wp2_with fail
  refine (L0.out b _ HV.out HT1.out).mono ?_
  rintro e w2 ⟨rfl, hg⟩
  have HV2 := Lib.hid (HV.out.gr hg)
  have HG2 := Lib.hid (HG.out.trans hg)
  have HT2 := Lib.hid (HT1.out.gr hg)
  clear hg
  go_wp2_with fail
  refine (A0.out b _ HV2.out).mono ?_
  rintro e w3 ⟨rfl, hV, hS⟩
  have HV3 := Lib.hid hV
  have HG3 := Lib.hid (hS.gr HG2.out HB.out)
  have HT3 := Lib.hid (HT2.out.sole hS HNE.out)
  clear hV hS
  go_wp2_with fail
  refine (A1.out b _ HV3.out).mono ?_
  rintro e w4 ⟨rfl, hV, hS⟩
  have HV4 := Lib.hid hV
  have HG4 := Lib.hid (hS.gr HG3.out HB.out)
  have HT4 := Lib.hid (HT3.out.sole hS HNE.out)
  clear hV hS
  go_wp2_with fail
  refine (A3.out b _ HV4.out).mono ?_
  rintro e w5 ⟨rfl, hV, hS⟩
  have HV5 := Lib.hid hV
  have HG5 := Lib.hid (hS.gr HG4.out HB.out)
  have HT5 := Lib.hid (HT4.out.sole hS HNE.out)
  clear hV hS
  go_wp2_with fail
  refine (A4.out b _ HV5.out).mono ?_
  rintro e w6 ⟨rfl, hV, hS⟩
  have HV6 := Lib.hid hV
  have HG6 := Lib.hid (hS.gr HG5.out HB.out)
  have HT6 := Lib.hid (HT5.out.sole hS HNE.out)
  clear hV hS
  go_wp2_with fail
  refine (L1.out b _ HV6.out HT6.out).mono ?_
  rintro e w7 ⟨rfl, hg⟩
  have HV7 := Lib.hid (HV6.out.gr hg)
  have HG7 := Lib.hid (HG6.out.trans hg)
  clear hg
  go_wp2_with fail
  refine (D1.out b _ HV7.out).mono ?_
  rintro e w8 ⟨rfl, hg⟩
  have HG8 := Lib.hid (HG7.out.trans hg)
  clear hg
  go_wp2
  go_ret
  exact ⟨rfl, HG8.out⟩
def BegunIs (r p W z1 n1 z2 n2 : Nat) (f : Bool) (w : World) (e : Ending) (w' : World) : Prop :=
  ∃ b, e = .returned (.tuple #[.pointer (some ⟨b, 0, none⟩), .agg #[.int .i64 (kz f z1 z2 : Nat), .int .i64 (kz f n1 n2 : Nat)]]) ∧ w.heap.size ≤ b ∧ VtIs w' b r p W z1 n1 z2 n2 f 0 ∧ Gr w w'
theorem own_nat (r p W z1 n1 z2 n2 : Nat) (w : World) :
    Calls Tryd.prog 28 #[.agg #[.int .i64 r, .int .i64 p, .int .u32 W, .int .i64 z1, .int .i64 n1, .int .i64 z2, .int .i64 n2]] w fun e w' => e = .returned (.agg #[.int .i64 r, .int .i64 p, .int .u32 W, .int .i64 z1, .int .i64 n1, .int .i64 z2, .int .i64 n2]) ∧ Gr w w' := own_any r p z1 n1 z2 n2 W w
set_option maxRecDepth 100000 in
set_option maxHeartbeats 1000000 in
theorem begun_any (r p W z1 n1 z2 n2 : Nat) (f : Bool) (w : World) :
    Calls Tryd.prog 13 #[.agg #[.int .i64 r, .int .i64 p, .int .u32 W, .int .i64 z1, .int .i64 n1, .int .i64 z2, .int .i64 n2], .bool f] w (BegunIs r p W z1 n1 z2 n2 f w) := by
  have OW := Lib.hid (fun w => own_nat r p W z1 n1 z2 n2 w)
  have VF := Lib.hid (fun w => vFirst_any r p W z1 n1 z2 n2 w)
  have VS := Lib.hid (fun w => vSecond_any r p W z1 n1 z2 n2 w)
  cases f
  · go_enter Tryd.func13, Tryd.ntmps13
    go_wp2
    have hz := ((Gr.refl (w.alloc (.cells #[.int .i64 r, .int .i64 p, .int .u32 W, .int .i64 z1, .int .i64 n1, .int .i64 z2, .int .i64 n2] 32))).alloc (.cells #[.int .i64 0, .int .i64 0] 30)).drew
    have hz0 := (((Gr.refl w).alloc (.cells #[.int .i64 r, .int .i64 p, .int .u32 W, .int .i64 z1, .int .i64 n1, .int .i64 z2, .int .i64 n2] 32)).alloc (.cells #[.int .i64 0, .int .i64 0] 30)).drew
    have X0 : Hid (((((w.alloc (.cells #[.int .i64 r, .int .i64 p, .int .u32 W, .int .i64 z1, .int .i64 n1, .int .i64 z2, .int .i64 n2] 32)).alloc (.cells #[.int .i64 0, .int .i64 0] 30))).drew).cell? ⟨w.heap.size, 5, none⟩ = some (.int .i64 z2)) := Lib.hid (hz.cell (new_cell rfl rfl))
    have X1 : Hid (((((w.alloc (.cells #[.int .i64 r, .int .i64 p, .int .u32 W, .int .i64 z1, .int .i64 n1, .int .i64 z2, .int .i64 n2] 32)).alloc (.cells #[.int .i64 0, .int .i64 0] 30))).drew).cell? ⟨w.heap.size, 6, none⟩ = some (.int .i64 n2)) := Lib.hid (hz.cell (new_cell rfl rfl))
    have hsz : (w.alloc (.cells #[.int .i64 r, .int .i64 p, .int .u32 W, .int .i64 z1, .int .i64 n1, .int .i64 z2, .int .i64 n2] 32)).heap.size = w.heap.size + 1 := by simp
    have hd := (Gr.refl ((w.alloc (.cells #[.int .i64 r, .int .i64 p, .int .u32 W, .int .i64 z1, .int .i64 n1, .int .i64 z2, .int .i64 n2] 32)).alloc (.cells #[.int .i64 0, .int .i64 0] 30))).drew
    have R0 : Hid (((((w.alloc (.cells #[.int .i64 r, .int .i64 p, .int .u32 W, .int .i64 z1, .int .i64 n1, .int .i64 z2, .int .i64 n2] 32)).alloc (.cells #[.int .i64 0, .int .i64 0] 30))).drew).cell? ⟨w.heap.size + 1, 0, none⟩ = some (.int .i64 0)) := Lib.hid (hd.cell (new_cell hsz.symm rfl))
    have R1 : Hid (((((w.alloc (.cells #[.int .i64 r, .int .i64 p, .int .u32 W, .int .i64 z1, .int .i64 n1, .int .i64 z2, .int .i64 n2] 32)).alloc (.cells #[.int .i64 0, .int .i64 0] 30))).drew).cell? ⟨w.heap.size + 1, 1, none⟩ = some (.int .i64 0)) := Lib.hid (hd.cell (new_cell hsz.symm rfl))
    have F0 : Hid (∀ i, ((((w.alloc (.cells #[.int .i64 r, .int .i64 p, .int .u32 W, .int .i64 z1, .int .i64 n1, .int .i64 z2, .int .i64 n2] 32)).alloc (.cells #[.int .i64 0, .int .i64 0] 30))).drew).frozen? ⟨w.heap.size + 1, i, none⟩ = false) := Lib.hid fun i => new_free hsz.symm
    have HZ := Lib.hid hz0
    have x0 := X0.out
    have x1 := X1.out
    clear hz hz0 hsz hd
    go_region_with (first | (go_at_call 28; go_loud (refine (OW.out _).mono ?_; rintro e w5 ⟨rfl, hg5⟩; have x0 := hg5.cell X0.out; have x1 := hg5.cell X1.out; have r0 := hg5.cell R0.out; have HX0 := Lib.hid x0; have HX1 := Lib.hid x1; have r1 := hg5.cell R1.out; have HR0 := Lib.hid r0; have HR1 := Lib.hid r1; have hf := fun i => (hg5.frozen (o := i) (cell_lt R0.out)).trans (F0.out i); have HF := Lib.hid hf; have HG5 := Lib.hid (HZ.out.trans hg5); clear hg5 r0 r1 hf)) | (go_at_call 29; go_loud (refine (VS.out _).mono ?_; rintro e w6 ⟨b, rfl, hb, hV, hg6⟩; have x0 := hg6.cell HX0.out; have x1 := hg6.cell HX1.out; have r0 := hg6.cell HR0.out; have r1 := hg6.cell HR1.out; have f0 := (hg6.frozen (o := 0) (cell_lt HR0.out)).trans (HF.out 0); have f1 := (hg6.frozen (o := 1) (cell_lt HR0.out)).trans (HF.out 1); have HG6 := Lib.hid (HG5.out.trans hg6); have hne : b ≠ w.heap.size + 1 := Nat.ne_of_gt (Nat.lt_of_lt_of_le (cell_lt HR0.out) hb); have hb6 := Nat.le_trans HG5.out.size hb; clear hg6 hb)))
    all_goals
      go_wp2
      exact bodyPost_ret (v := .tuple #[.pointer (some ⟨b, 0, none⟩), .agg #[.int .i64 z2, .int .i64 n2]]) (by simp [results, Tryd.results13, go_sem, r0, r1]) rfl ⟨b, rfl, hb6, ((Sole.setCell (w.heap.size + 1) 0 w6 _).trans (Sole.setCell (w.heap.size + 1) 1 _ _)).vt hne hV, (HG6.out.setCell (Nat.le_succ _) _).setCell (Nat.le_succ _) _⟩
  · go_enter Tryd.func13, Tryd.ntmps13
    go_wp2
    have hz := ((Gr.refl (w.alloc (.cells #[.int .i64 r, .int .i64 p, .int .u32 W, .int .i64 z1, .int .i64 n1, .int .i64 z2, .int .i64 n2] 32))).alloc (.cells #[.int .i64 0, .int .i64 0] 30)).drew
    have hz0 := (((Gr.refl w).alloc (.cells #[.int .i64 r, .int .i64 p, .int .u32 W, .int .i64 z1, .int .i64 n1, .int .i64 z2, .int .i64 n2] 32)).alloc (.cells #[.int .i64 0, .int .i64 0] 30)).drew
    have X0 : Hid (((((w.alloc (.cells #[.int .i64 r, .int .i64 p, .int .u32 W, .int .i64 z1, .int .i64 n1, .int .i64 z2, .int .i64 n2] 32)).alloc (.cells #[.int .i64 0, .int .i64 0] 30))).drew).cell? ⟨w.heap.size, 3, none⟩ = some (.int .i64 z1)) := Lib.hid (hz.cell (new_cell rfl rfl))
    have X1 : Hid (((((w.alloc (.cells #[.int .i64 r, .int .i64 p, .int .u32 W, .int .i64 z1, .int .i64 n1, .int .i64 z2, .int .i64 n2] 32)).alloc (.cells #[.int .i64 0, .int .i64 0] 30))).drew).cell? ⟨w.heap.size, 4, none⟩ = some (.int .i64 n1)) := Lib.hid (hz.cell (new_cell rfl rfl))
    have hsz : (w.alloc (.cells #[.int .i64 r, .int .i64 p, .int .u32 W, .int .i64 z1, .int .i64 n1, .int .i64 z2, .int .i64 n2] 32)).heap.size = w.heap.size + 1 := by simp
    have hd := (Gr.refl ((w.alloc (.cells #[.int .i64 r, .int .i64 p, .int .u32 W, .int .i64 z1, .int .i64 n1, .int .i64 z2, .int .i64 n2] 32)).alloc (.cells #[.int .i64 0, .int .i64 0] 30))).drew
    have R0 : Hid (((((w.alloc (.cells #[.int .i64 r, .int .i64 p, .int .u32 W, .int .i64 z1, .int .i64 n1, .int .i64 z2, .int .i64 n2] 32)).alloc (.cells #[.int .i64 0, .int .i64 0] 30))).drew).cell? ⟨w.heap.size + 1, 0, none⟩ = some (.int .i64 0)) := Lib.hid (hd.cell (new_cell hsz.symm rfl))
    have R1 : Hid (((((w.alloc (.cells #[.int .i64 r, .int .i64 p, .int .u32 W, .int .i64 z1, .int .i64 n1, .int .i64 z2, .int .i64 n2] 32)).alloc (.cells #[.int .i64 0, .int .i64 0] 30))).drew).cell? ⟨w.heap.size + 1, 1, none⟩ = some (.int .i64 0)) := Lib.hid (hd.cell (new_cell hsz.symm rfl))
    have F0 : Hid (∀ i, ((((w.alloc (.cells #[.int .i64 r, .int .i64 p, .int .u32 W, .int .i64 z1, .int .i64 n1, .int .i64 z2, .int .i64 n2] 32)).alloc (.cells #[.int .i64 0, .int .i64 0] 30))).drew).frozen? ⟨w.heap.size + 1, i, none⟩ = false) := Lib.hid fun i => new_free hsz.symm
    have HZ := Lib.hid hz0
    have x0 := X0.out
    have x1 := X1.out
    clear hz hz0 hsz hd
    go_region_with (first | (go_at_call 28; go_loud (refine (OW.out _).mono ?_; rintro e w5 ⟨rfl, hg5⟩; have x0 := hg5.cell X0.out; have x1 := hg5.cell X1.out; have r0 := hg5.cell R0.out; have HX0 := Lib.hid x0; have HX1 := Lib.hid x1; have r1 := hg5.cell R1.out; have HR0 := Lib.hid r0; have HR1 := Lib.hid r1; have hf := fun i => (hg5.frozen (o := i) (cell_lt R0.out)).trans (F0.out i); have HF := Lib.hid hf; have HG5 := Lib.hid (HZ.out.trans hg5); clear hg5 r0 r1 hf)) | (go_at_call 25; go_loud (refine (VF.out _).mono ?_; rintro e w6 ⟨b, rfl, hb, hV, hg6⟩; have x0 := hg6.cell HX0.out; have x1 := hg6.cell HX1.out; have r0 := hg6.cell HR0.out; have r1 := hg6.cell HR1.out; have f0 := (hg6.frozen (o := 0) (cell_lt HR0.out)).trans (HF.out 0); have f1 := (hg6.frozen (o := 1) (cell_lt HR0.out)).trans (HF.out 1); have HG6 := Lib.hid (HG5.out.trans hg6); have hne : b ≠ w.heap.size + 1 := Nat.ne_of_gt (Nat.lt_of_lt_of_le (cell_lt HR0.out) hb); have hb6 := Nat.le_trans HG5.out.size hb; clear hg6 hb)))
    all_goals
      go_wp2
      exact bodyPost_ret (v := .tuple #[.pointer (some ⟨b, 0, none⟩), .agg #[.int .i64 z1, .int .i64 n1]]) (by simp [results, Tryd.results13, go_sem, r0, r1]) rfl ⟨b, rfl, hb6, ((Sole.setCell (w.heap.size + 1) 0 w6 _).trans (Sole.setCell (w.heap.size + 1) 1 _ _)).vt hne hV, (HG6.out.setCell (Nat.le_succ _) _).setCell (Nat.le_succ _) _⟩
end Go.Proofs.YtegapeplbincnaaDoor
