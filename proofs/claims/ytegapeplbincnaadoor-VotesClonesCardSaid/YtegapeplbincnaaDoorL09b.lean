import Derived.Test.YtegapeplbincnaaDoorL09
import Derived.WalkKit
import Derived.ProofKit
import Derived.LoopTactic
import Derived.Outline
import Derived.WalkSpells
import Derived.WalkLawsBesides
import Derived.Lib.Hide
import Derived.Deep.LoopGhost
import Derived.Deep.QuietTactic
import Derived.BigQuiet
import Derived.ShutString
import Derived.IntWalk
import Derived.Deep.RegionWith
import Derived.Deep.RegionHeld3
namespace Go.Proofs.YtegapeplbincnaaDoor
open Go.ChangeShapes Go.WideShapes Go.ChangeAt Go.RowKit
open Grids
set_option linter.unusedVariables false
set_option linter.unusedSimpArgs false
theorem addS_lt {r p s : Nat} {n : Int} (hs : s < 2 ^ (r * p)) : addS r p s n < 2 ^ (r * p) := by
  unfold addS
  by_cases h : freshB r p s n = true
  · rw [if_pos h]
    unfold freshB at h
    simp only [Bool.and_eq_true, decide_eq_true_eq] at h
    exact add_lt hs (by omega)
  · rw [if_neg h]; exact hs
theorem addS_and (r p s : Nat) (n : Int) : addS r p s n &&& s = s := by
  unfold addS
  split
  · apply Nat.eq_of_testBit_eq
    intro i
    rw [Nat.testBit_and, Nat.testBit_or]
    cases s.testBit i <;> simp
  · exact Nat.and_self s
theorem addS_up (r p s : Nat) (n : Int) : ∀ i, s.testBit i = true → (addS r p s n).testBit i = true := by
  intro i hi
  unfold addS
  split
  · rw [Nat.testBit_or, hi]; rfl
  · exact hi
theorem addS_ne {r p s : Nat} {n : Int} (h : freshB r p s n = true) : addS r p s n ≠ s := by
  unfold addS
  rw [if_pos h]
  unfold freshB at h
  simp only [Bool.and_eq_true, Bool.not_eq_true'] at h
  intro e
  have := congrArg (fun x => x.testBit n.toNat) e
  simp only [Nat.testBit_or, h.2, Nat.testBit_two_pow_self, Bool.or_true] at this
  cases this
set_option maxRecDepth 100000 in
set_option maxHeartbeats 8000000 in
theorem votesClones_walk (R0 P0 : Int) (W0 : Nat) (a1 a2 a3 a4 : Int) (f : Bool) (l0 l1 : Int) (w : World) (hW : W0 < 4294967296) (hwl : ∀ n ∈ [l0, l1], (Lit.int .i64 n).wf = true) (hT : TB w) :
    Calls Tryd.prog 6 #[.agg #[.int .i64 R0, .int .i64 P0, .int .u32 W0, .int .i64 a1, .int .i64 a2, .int .i64 a3, .int .i64 a4], .bool f, .agg #[.int .i64 l0, .int .i64 l1]] w fun e w' => e = .returned (.bool true) ∧ Gr w w' := by
  have W1 := Lib.hid (hwl l0 (by simp))
  have W2 := Lib.hid (hwl l1 (by simp))
  clear hwl
  have RI := Lib.hid (fun w => right_any R0 P0 a1 a2 a3 a4 W0 w hW)
  have BE := Lib.hid (fun r p W z1 n1 z2 n2 w => begun_any r p W z1 n1 z2 n2 f w)
  have HT := Lib.hid hT
  clear hW hT
  go_enter Tryd.func6, Tryd.ntmps6
  go_wp2_with fail
  refine (awake09_any _ (HT.out.gr (((Gr.refl w).alloc _).alloc _))).mono ?_
  rintro e w1 ⟨rfl, hg1⟩
  have hz := ((Gr.refl w).alloc (.cells #[.int .i64 R0, .int .i64 P0, .int .u32 W0, .int .i64 a1, .int .i64 a2, .int .i64 a3, .int .i64 a4] 32)).alloc (.cells #[.int .i64 l0, .int .i64 l1] 43)
  have hy := ((Gr.refl (w.alloc (.cells #[.int .i64 R0, .int .i64 P0, .int .u32 W0, .int .i64 a1, .int .i64 a2, .int .i64 a3, .int .i64 a4] 32))).alloc (.cells #[.int .i64 l0, .int .i64 l1] 43)).trans hg1
  have hab : (w.alloc (.cells #[.int .i64 R0, .int .i64 P0, .int .u32 W0, .int .i64 a1, .int .i64 a2, .int .i64 a3, .int .i64 a4] 32)).heap.size = w.heap.size + 1 := by simp
  have HG1 := Lib.hid (hz.trans hg1)
  have k0 := hy.own.1 0 _ rfl
  have k1 := hy.own.1 1 _ rfl
  have k2 := hy.own.1 2 _ rfl
  have k3 := hy.own.1 3 _ rfl
  have k4 := hy.own.1 4 _ rfl
  have k5 := hy.own.1 5 _ rfl
  have k6 := hy.own.1 6 _ rfl
  have FZ := Lib.hid hy.own.2.1
  have l0c := hg1.own.1 0 _ rfl
  have l1c := hg1.own.1 1 _ rfl
  rw [hab] at l0c l1c
  clear hz hg1 hy hab
  go_wp2_with fail
  refine (RI.out _).mono ?_
  rintro e w2 ⟨r, p, W, z1, n1, z2, n2, R, rfl, hg2⟩
  have FZ2 := Lib.hid (fun i => (hg2.frozen (o := i) (cell_lt k0)).trans (FZ.out i))
  replace k0 := hg2.cell k0
  replace k1 := hg2.cell k1
  replace k2 := hg2.cell k2
  replace k3 := hg2.cell k3
  replace k4 := hg2.cell k4
  replace k5 := hg2.cell k5
  replace k6 := hg2.cell k6
  replace l0c := hg2.cell l0c
  replace l1c := hg2.cell l1c
  have HG2 := Lib.hid (HG1.out.trans hg2)
  have HR := Lib.hid R
  clear hg2 R RI
  have f0 := FZ2.out 0
  have f1 := FZ2.out 1
  have f2 := FZ2.out 2
  have f3 := FZ2.out 3
  have f4 := FZ2.out 4
  have f5 := FZ2.out 5
  have f6 := FZ2.out 6
  go_wp2_with fail
  obtain ⟨⟨x0, x1, x2, x3, x4, x5, x6⟩, hoth, -, hgr⟩ := put7 k0 k1 k2 k3 k4 k5 k6 (rfl : (((((((w2.setCell ⟨w.heap.size, 0, none⟩ (.int .i64 (r : Nat))).setCell ⟨w.heap.size, 1, none⟩ (.int .i64 (p : Nat))).setCell ⟨w.heap.size, 2, none⟩ (.int .u32 (W : Nat))).setCell ⟨w.heap.size, 3, none⟩ (.int .i64 (z1 : Nat))).setCell ⟨w.heap.size, 4, none⟩ (.int .i64 (n1 : Nat))).setCell ⟨w.heap.size, 5, none⟩ (.int .i64 (z2 : Nat))).setCell ⟨w.heap.size, 6, none⟩ (.int .i64 (n2 : Nat))) = _)
  replace l0c := hoth _ _ _ (by omega) l0c
  replace l1c := hoth _ _ _ (by omega) l1c
  clear hoth
  have HW3 := Lib.hid (hgr _ HG2.out (Nat.le_refl _))
  generalize (((((((w2.setCell ⟨w.heap.size, 0, none⟩ (.int .i64 (r : Nat))).setCell ⟨w.heap.size, 1, none⟩ (.int .i64 (p : Nat))).setCell ⟨w.heap.size, 2, none⟩ (.int .u32 (W : Nat))).setCell ⟨w.heap.size, 3, none⟩ (.int .i64 (z1 : Nat))).setCell ⟨w.heap.size, 4, none⟩ (.int .i64 (n1 : Nat))).setCell ⟨w.heap.size, 5, none⟩ (.int .i64 (z2 : Nat))).setCell ⟨w.heap.size, 6, none⟩ (.int .i64 (n2 : Nat))) = w3 at *
  clear k0 k1 k2 k3 k4 k5 k6 hgr f0 f1 f2 f3 f4 f5 f6
  have HC3 := Lib.hid (And.intro x0 (And.intro x1 (And.intro x2 (And.intro x3 (And.intro x4 (And.intro x5 x6))))))
  have hl3 := cell_lt l0c
  refine (BE.out r p W z1 n1 z2 n2 w3).mono ?_
  rintro e w4 ⟨b, rfl, hb, hV, hg4⟩
  obtain ⟨zz0, zzr, nn0, nnp⟩ := kz_in HR.out f
  have hr3 := HR.out.shp.hr
  have hp3 := HR.out.shp.hp
  have KL := Lib.hid (fun s => kz_least HR.out f s)
  have AD0 := Lib.hid (fun b s n wn w h => @vAdd_any b r p W z1 n1 z2 n2 s f HR.out n wn w h)
  have DN0 := Lib.hid (fun b s w h => @vDone_any b r p W z1 n1 z2 n2 s f HR.out w h)
  have LN0 := Lib.hid (fun b s hs w h hT => @vLeast_any b r p W z1 n1 z2 n2 s f HR.out hs w h hT)
  have h9 := shp12 HR.out.shp
  have QN0 := Lib.hid (fun s (hs : s < 4294967296) w => refQuorum_any r p (kz f z1 z2) (kz f n1 n2) s W z1 n1 z2 n2 w (by omega) (by omega) (by omega) hs (by omega) (by omega))
  generalize kz f z1 z2 = z at *
  generalize kz f n1 n2 = n at *
  have hz := hg4.trans ((Gr.refl w4).alloc (.cells #[.int .i64 (z : Nat), .int .i64 (n : Nat)] 30))
  have HC4 := Lib.hid (And.intro (hz.cell x0) (And.intro (hz.cell x1) (And.intro (hz.cell x2) (And.intro (hz.cell x3) (And.intro (hz.cell x4) (And.intro (hz.cell x5) (And.intro (hz.cell x6) (And.intro (new_cell (w := w4) (c := #[.int .i64 (z : Nat), .int .i64 (n : Nat)]) (t := 30) (i := 0) rfl rfl) (new_cell (w := w4) (c := #[.int .i64 (z : Nat), .int .i64 (n : Nat)]) (t := 30) (i := 1) rfl rfl)))))))))
  replace l0c := hz.cell l0c
  replace l1c := hz.cell l1c
  have HV4 := Lib.hid (hV.gr ((Gr.refl w4).alloc (.cells #[.int .i64 (z : Nat), .int .i64 (n : Nat)] 30)))
  have HG4 := Lib.hid (HW3.out.trans hz)
  have HT4 := Lib.hid (HT.out.gr HG4.out)
  have HB := Lib.hid (Nat.le_trans HW3.out.size hb)
  have HNE := Lib.hid (tb_ne HT.out HB.out)
  have HCB := Lib.hid (show w.heap.size ≠ b from Nat.ne_of_lt (Nat.lt_of_lt_of_le (cell_lt x0) hb))
  have HAB := Lib.hid (show w.heap.size + 1 ≠ b from Nat.ne_of_lt (Nat.lt_of_lt_of_le hl3 hb))
  have HKB := Lib.hid (show w4.heap.size ≠ b from Nat.ne_of_gt (cell_lt hV.c0))
  clear x0 x1 x2 x3 x4 x5 x6 hz hV hg4 hb HC3 hl3 HC4
  go_wp2_with fail
  generalize w.heap.size + 1 = ab at *
  generalize w4.alloc (.cells #[.int .i64 (z : Nat), .int .i64 (n : Nat)] 30) = w5 at *
  generalize w4.heap.size = kb at *
  generalize hcb : w.heap.size = cb at *
  have HBW := Lib.hid (show w.heap.size ≤ b by have h2 := HB.out; omega)
  clear hcb
  have S0 := Lib.hid (addS_lt (r := r) (p := p) (s := 0) (n := l0) (Nat.two_pow_pos _))
  refine (AD0.out b 0 l0 W1.out _ HV4.out).mono ?_
  rintro e w6 ⟨rfl, hV, hS⟩
  replace l0c := hS.cell HAB.out l0c
  replace l1c := hS.cell HAB.out l1c
  have HV6 := Lib.hid hV
  have HG6 := Lib.hid (hS.gr HG4.out HBW.out)
  have HT6 := Lib.hid (HT4.out.sole hS HNE.out)
  clear hV hS
  generalize addS r p 0 l0 = s at *
  go_wp2_with fail
  refine (vSet_any _ HV6.out).mono ?_
  rintro e w7 ⟨rfl, rfl⟩
  go_wp2_with fail
  refine (vClone_any _ HV6.out).mono ?_
  rintro e w7 ⟨d, rfl, hd, hVd, hg7⟩
  replace l1c := hg7.cell l1c
  have HV7 := Lib.hid (HV6.out.gr hg7)
  have HD7 := Lib.hid hVd
  have HG7 := Lib.hid (HG6.out.trans hg7)
  have HT7 := Lib.hid (HT6.out.gr hg7)
  have HDW := Lib.hid (Nat.le_trans HG6.out.size hd)
  have HDB := Lib.hid (show b ≠ d from Nat.ne_of_lt (Nat.lt_of_lt_of_le (cell_lt HV6.out.c0) hd))
  have HDA := Lib.hid (show ab ≠ d from Nat.ne_of_lt (Nat.lt_of_lt_of_le (cell_lt l0c) hd))
  have HDT := Lib.hid (tb_ne HT.out HDW.out)
  clear hd hVd hg7 l0c
  have U0 := Lib.hid (addS_lt (r := r) (p := p) (s := s) (n := l1) S0.out)
  go_wp2_with fail
  refine (AD0.out d s l1 W2.out _ HD7.out).mono ?_
  rintro e w8 ⟨rfl, hV, hS⟩
  replace l1c := hS.cell HDA.out l1c
  have HV8 := Lib.hid (hS.vt HDB.out HV7.out)
  have HD8 := Lib.hid hV
  have HG8 := Lib.hid (hS.gr HG7.out HDW.out)
  have HT8 := Lib.hid (HT7.out.sole hS HDT.out)
  clear hV hS
  have hs32 : s < 4294967296 := Nat.lt_of_lt_of_le S0.out (Nat.le_trans (Nat.pow_le_pow_right (n := 2) (by decide) h9) (by decide))
  have hu32 : addS r p s l1 < 4294967296 := Nat.lt_of_lt_of_le U0.out (Nat.le_trans (Nat.pow_le_pow_right (n := 2) (by decide) h9) (by decide))
  have hw := w32_and (addS r p s l1) s hu32 hs32
  rw [addS_and] at hw
  have HAN := Lib.hid hw
  have hlm := @least_mono r p z n s (addS r p s l1) (by omega) zzr (by omega) (addS_up r p s l1)
  have LU := Lib.hid (LN0.out d (addS r p s l1) U0.out)
  have LS := Lib.hid (LN0.out b s S0.out)
  have NE := Lib.hid (fun h => @addS_ne r p s l1 h)
  have HAS : Hid (freshB r p s l1 = false → addS r p s l1 = s) := Lib.hid fun h => (by unfold addS; rw [h]; simp)
  clear hw hs32 hu32 AD0 DN0 QN0 KL BE
  cases hfr : freshB r p s l1
  · have A2 := Lib.hid (fun d w h => vAdd_to HR.out W2.out hfr rfl w h (b := d) (f := f))
    have hus := HAS.out hfr
    rw [hus] at HD8 HAN LU
    clear hfr hus hlm NE HAS
    generalize least r p z n s = ls at *
    go_wp2
    have HS0 : (fun w9 => Hid (Gr w w9 ∧ VtIs w9 b r p W z1 n1 z2 n2 f s ∧ VtIs w9 d r p W z1 n1 z2 n2 f s ∧ TB w9) ∧ w9.cell? ⟨ab, 1, none⟩ = some (.int .i64 l1)) w8 := ⟨Lib.hid ⟨HG8.out, HV8.out, HD8.out, HT8.out⟩, l1c⟩
    have HX : Hid (∀ w0 w9 : World, Gr w0 w9 → (fun w9 => Hid (Gr w w9 ∧ VtIs w9 b r p W z1 n1 z2 n2 f s ∧ VtIs w9 d r p W z1 n1 z2 n2 f s ∧ TB w9) ∧ w9.cell? ⟨ab, 1, none⟩ = some (.int .i64 l1)) w0 → (fun w9 => Hid (Gr w w9 ∧ VtIs w9 b r p W z1 n1 z2 n2 f s ∧ VtIs w9 d r p W z1 n1 z2 n2 f s ∧ TB w9) ∧ w9.cell? ⟨ab, 1, none⟩ = some (.int .i64 l1)) w9) := Lib.hid fun w0 w9 hg ⟨h, q0⟩ => ⟨Lib.hid ⟨h.out.1.trans hg, h.out.2.1.gr hg, h.out.2.2.1.gr hg, h.out.2.2.2.gr hg⟩, hg.cell q0⟩
    refine wp_region_held_drew (S := (fun w9 => Hid (Gr w w9 ∧ VtIs w9 b r p W z1 n1 z2 n2 f s ∧ VtIs w9 d r p W z1 n1 z2 n2 f s ∧ TB w9) ∧ w9.cell? ⟨ab, 1, none⟩ = some (.int .i64 l1))) (by kernel_rfl) ?inva (fun h0 => ?_)
    case inva => ((try dsimp only); (first | exact HS0 | exact HX.out _ _ ((Gr.refl _).drew) HS0))
    refine wpAnyH_take (i := 0) (oi := { dst := some 35, op := Go.Op.move (Go.Operand.tmp 7), type := 34, pos := "law.go:90", after := #[], guard := none }) (v := ?va1) rfl (by kernel_rfl) (by kernel_rfl) (by kernel_rfl) (fun _ _ _ h => h) (Or.inl ⟨by rfl, ?ra1⟩) (by assumption) ?_
    case ra1 => (intro w hSw; (try dsimp only at hSw); (go_simp <;> with_reducible rfl))
    try simp only [Act.put, List.setIfInBounds_toArray, List.set_cons_zero, List.set_cons_succ]
    refine wpAnyH_take (i := 2) (oi := { dst := some 37, op := Go.Op.move (Go.Operand.tmp 9), type := 23, pos := "law.go:90", after := #[], guard := none }) (v := ?va2) rfl (by kernel_rfl) (by kernel_rfl) (by kernel_rfl) (fun _ _ _ h => h) (Or.inl ⟨by rfl, ?ra2⟩) (by assumption) ?_
    case ra2 => (intro w hSw; (try dsimp only at hSw); (go_simp <;> with_reducible rfl))
    try simp only [Act.put, List.setIfInBounds_toArray, List.set_cons_zero, List.set_cons_succ]
    refine wpAnyH_ready (rs := [1]) (by kernel_rfl) (by simp) ?_
    refine AllReadyH.cons (o := { dst := some 36, op := Go.Op.call { callee := Go.Callee.value (Go.Operand.func 15), args := #[Go.Operand.tmp 35], argTypes := #[34] }, type := 23, pos := "law.go:90", after := #[{ on := 0, ground := Go.Ground.data }], guard := none }) rfl (fun K hK => ?_) AllReadyH.nil
    go_simp
    (go_at_call 15; refine (vSet_any _ (h0).1.out.2.1).mono ?_; rintro e w9 ⟨rfl, rfl⟩)
    first | refine hK.out _ _ ?sa3 (fun h3 => ?_) | (go_wp2_with fail; refine hK.out _ _ ?sa3 (fun h3 => ?_))
    case sa3 => ((try dsimp only); (first | exact HX.out _ _ hgN h0 | exact h0 | exact ⟨Lib.hid ⟨hsN.gr (h0).1.out.1 hw2, hsN.vt hb2 (h0).1.out.2.1, hsN.vt hd3 (h0).1.out.2.2.1, (h0).1.out.2.2.2.sole hsN hg0⟩, hsN.cell ha2 (h0).2⟩))
    clear hK K h0
    try simp only [Act.put, List.setIfInBounds_toArray, List.set_cons_zero, List.set_cons_succ]
    refine wpAnyH_take (i := 3) (oi := { dst := some 38, op := Go.Op.binOp Go.BinOp.eql 23 (Go.Operand.tmp 36) (Go.Operand.tmp 37) 23, type := 4, pos := "law.go:90", after := #[{ on := 1, ground := Go.Ground.data }, { on := 2, ground := Go.Ground.data }], guard := none }) (v := (.bool true)) rfl (by kernel_rfl) (by kernel_rfl) (by kernel_rfl) (fun _ _ _ h => h) (Or.inl ⟨by rfl, ?ra4⟩) (by assumption) ?_
    case ra4 => (intro w hSw; (try dsimp only at hSw); go_simp; all_goals simp)
    try simp only [Act.put, List.setIfInBounds_toArray, List.set_cons_zero, List.set_cons_succ]
    refine wpAnyH_take (i := 4) (oi := { dst := some 39, op := Go.Op.move (Go.Operand.tmp 38), type := 4, pos := "law.go:90", after := #[{ on := 3, ground := Go.Ground.data }, { on := 1, ground := Go.Ground.chain }], guard := none }) (v := ?va5) rfl (by kernel_rfl) (by kernel_rfl) (by kernel_rfl) (fun _ _ _ h => h) (Or.inl ⟨by rfl, ?ra5⟩) (by assumption) ?_
    case ra5 => (intro w hSw; (try dsimp only at hSw); (go_simp <;> with_reducible rfl))
    try simp only [Act.put, List.setIfInBounds_toArray, List.set_cons_zero, List.set_cons_succ]
    refine wpAnyH_take (i := 5) (oi := { dst := some 40, op := Go.Op.move (Go.Operand.tmp 10), type := 34, pos := "law.go:90", after := #[{ on := 4, ground := Go.Ground.guard }], guard := some (4, true) }) (v := ?va6) rfl (by kernel_rfl) (by kernel_rfl) (by kernel_rfl) (fun _ _ _ h => h) (Or.inl ⟨by rfl, ?ra6⟩) (by assumption) ?_
    case ra6 => (intro w hSw; (try dsimp only at hSw); (go_simp <;> with_reducible rfl))
    try simp only [Act.put, List.setIfInBounds_toArray, List.set_cons_zero, List.set_cons_succ]
    refine wpAnyH_take (i := 7) (oi := { dst := some 42, op := Go.Op.move (Go.Operand.tmp 9), type := 23, pos := "law.go:90", after := #[{ on := 4, ground := Go.Ground.guard }], guard := some (4, true) }) (v := ?va7) rfl (by kernel_rfl) (by kernel_rfl) (by kernel_rfl) (fun _ _ _ h => h) (Or.inl ⟨by rfl, ?ra7⟩) (by assumption) ?_
    case ra7 => (intro w hSw; (try dsimp only at hSw); (go_simp <;> with_reducible rfl))
    try simp only [Act.put, List.setIfInBounds_toArray, List.set_cons_zero, List.set_cons_succ]
    refine wpAnyH_take (i := 9) (oi := { dst := some 44, op := Go.Op.move (Go.Operand.tmp 9), type := 23, pos := "law.go:90", after := #[{ on := 4, ground := Go.Ground.guard }], guard := some (4, true) }) (v := ?va8) rfl (by kernel_rfl) (by kernel_rfl) (by kernel_rfl) (fun _ _ _ h => h) (Or.inl ⟨by rfl, ?ra8⟩) (by assumption) ?_
    case ra8 => (intro w hSw; (try dsimp only at hSw); (go_simp <;> with_reducible rfl))
    try simp only [Act.put, List.setIfInBounds_toArray, List.set_cons_zero, List.set_cons_succ]
    refine wpAnyH_ready (rs := [6]) (by kernel_rfl) (by simp) ?_
    refine AllReadyH.cons (o := { dst := some 41, op := Go.Op.call { callee := Go.Callee.value (Go.Operand.func 15), args := #[Go.Operand.tmp 40], argTypes := #[34] }, type := 23, pos := "law.go:90", after := #[{ on := 5, ground := Go.Ground.data }, { on := 4, ground := Go.Ground.chain }, { on := 4, ground := Go.Ground.guard }], guard := some (4, true) }) rfl (fun K hK => ?_) AllReadyH.nil
    go_simp
    (go_at_call 15; refine (vSet_any _ (h3).1.out.2.2.1).mono ?_; rintro e w9 ⟨rfl, rfl⟩)
    first | refine hK.out _ _ ?sa9 (fun h9 => ?_) | (go_wp2_with fail; refine hK.out _ _ ?sa9 (fun h9 => ?_))
    case sa9 => ((try dsimp only); (first | exact HX.out _ _ hgN h3 | exact h3 | exact ⟨Lib.hid ⟨hsN.gr (h3).1.out.1 hw2, hsN.vt hb2 (h3).1.out.2.1, hsN.vt hd3 (h3).1.out.2.2.1, (h3).1.out.2.2.2.sole hsN hg0⟩, hsN.cell ha2 (h3).2⟩))
    clear hK K h3
    try simp only [Act.put, List.setIfInBounds_toArray, List.set_cons_zero, List.set_cons_succ]
    refine wpAnyH_take (i := 8) (oi := { dst := some 43, op := Go.Op.binOp Go.BinOp.and 23 (Go.Operand.tmp 41) (Go.Operand.tmp 42) 23, type := 23, pos := "law.go:90", after := #[{ on := 6, ground := Go.Ground.data }, { on := 7, ground := Go.Ground.data }, { on := 4, ground := Go.Ground.guard }], guard := some (4, true) }) (v := (.int .u32 (s : Nat))) rfl (by kernel_rfl) (by kernel_rfl) (by kernel_rfl) (fun _ _ _ h => h) (Or.inl ⟨by rfl, ?ra10⟩) (by assumption) ?_
    case ra10 => (intro w hSw; (try dsimp only at hSw); go_simp; all_goals simp [HAN.out])
    try simp only [Act.put, List.setIfInBounds_toArray, List.set_cons_zero, List.set_cons_succ]
    refine wpAnyH_take (i := 10) (oi := { dst := some 45, op := Go.Op.binOp Go.BinOp.eql 23 (Go.Operand.tmp 43) (Go.Operand.tmp 44) 23, type := 4, pos := "law.go:90", after := #[{ on := 8, ground := Go.Ground.data }, { on := 9, ground := Go.Ground.data }, { on := 4, ground := Go.Ground.guard }], guard := some (4, true) }) (v := (.bool true)) rfl (by kernel_rfl) (by kernel_rfl) (by kernel_rfl) (fun _ _ _ h => h) (Or.inl ⟨by rfl, ?ra11⟩) (by assumption) ?_
    case ra11 => (intro w hSw; (try dsimp only at hSw); go_simp; all_goals simp)
    try simp only [Act.put, List.setIfInBounds_toArray, List.set_cons_zero, List.set_cons_succ]
    refine wpAnyH_take (i := 11) (oi := { dst := some 46, op := Go.Op.pick (Go.Operand.tmp 39) (Go.Operand.tmp 45) (Go.Operand.const (Go.Value.bool false)), type := 4, pos := "law.go:90", after := #[{ on := 4, ground := Go.Ground.data }, { on := 10, ground := Go.Ground.data }], guard := none }) (v := ?va12) rfl (by kernel_rfl) (by kernel_rfl) (by kernel_rfl) (fun _ _ _ h => h) (Or.inl ⟨by rfl, ?ra12⟩) (by assumption) ?_
    case ra12 => (intro w hSw; (try dsimp only at hSw); (go_simp <;> with_reducible rfl))
    try simp only [Act.put, List.setIfInBounds_toArray, List.set_cons_zero, List.set_cons_succ]
    refine wpAnyH_take (i := 12) (oi := { dst := some 47, op := Go.Op.move (Go.Operand.tmp 46), type := 4, pos := "law.go:90", after := #[{ on := 11, ground := Go.Ground.data }, { on := 6, ground := Go.Ground.chain }], guard := none }) (v := ?va13) rfl (by kernel_rfl) (by kernel_rfl) (by kernel_rfl) (fun _ _ _ h => h) (Or.inl ⟨by rfl, ?ra13⟩) (by assumption) ?_
    case ra13 => (intro w hSw; (try dsimp only at hSw); (go_simp <;> with_reducible rfl))
    try simp only [Act.put, List.setIfInBounds_toArray, List.set_cons_zero, List.set_cons_succ]
    refine wpAnyH_take (i := 13) (oi := { dst := some 48, op := Go.Op.move (Go.Operand.tmp 10), type := 34, pos := "law.go:90", after := #[{ on := 12, ground := Go.Ground.guard }], guard := some (12, true) }) (v := ?va14) rfl (by kernel_rfl) (by kernel_rfl) (by kernel_rfl) (fun _ _ _ h => h) (Or.inl ⟨by rfl, ?ra14⟩) (by assumption) ?_
    case ra14 => (intro w hSw; (try dsimp only at hSw); (go_simp <;> with_reducible rfl))
    try simp only [Act.put, List.setIfInBounds_toArray, List.set_cons_zero, List.set_cons_succ]
    refine wpAnyH_take (i := 15) (oi := { dst := some 50, op := Go.Op.move (Go.Operand.tmp 7), type := 34, pos := "law.go:90", after := #[{ on := 12, ground := Go.Ground.guard }], guard := some (12, true) }) (v := ?va15) rfl (by kernel_rfl) (by kernel_rfl) (by kernel_rfl) (fun _ _ _ h => h) (Or.inl ⟨by rfl, ?ra15⟩) (by assumption) ?_
    case ra15 => (intro w hSw; (try dsimp only at hSw); (go_simp <;> with_reducible rfl))
    try simp only [Act.put, List.setIfInBounds_toArray, List.set_cons_zero, List.set_cons_succ]
    refine wpAnyH_ready (rs := [14]) (by kernel_rfl) (by simp) ?_
    refine AllReadyH.cons (o := { dst := some 49, op := Go.Op.call { callee := Go.Callee.value (Go.Operand.func 18), args := #[Go.Operand.tmp 48], argTypes := #[34] }, type := 3, pos := "law.go:90", after := #[{ on := 13, ground := Go.Ground.data }, { on := 12, ground := Go.Ground.chain }, { on := 12, ground := Go.Ground.guard }], guard := some (12, true) }) rfl (fun K hK => ?_) AllReadyH.nil
    go_simp
    (go_at_call 18; refine (LU.out _ (h9).1.out.2.2.1 (h9).1.out.2.2.2).mono ?_; rintro e w9 ⟨rfl, hgN⟩)
    first | refine hK.out _ _ ?sa16 (fun h16 => ?_) | (go_wp2_with fail; refine hK.out _ _ ?sa16 (fun h16 => ?_))
    case sa16 => ((try dsimp only); (first | exact HX.out _ _ hgN h9 | exact h9 | exact ⟨Lib.hid ⟨hsN.gr (h9).1.out.1 hw2, hsN.vt hb2 (h9).1.out.2.1, hsN.vt hd3 (h9).1.out.2.2.1, (h9).1.out.2.2.2.sole hsN hg0⟩, hsN.cell ha2 (h9).2⟩))
    clear hK K h9
    try simp only [Act.put, List.setIfInBounds_toArray, List.set_cons_zero, List.set_cons_succ]
    refine wpAnyH_ready (rs := [16]) (by kernel_rfl) (by simp) ?_
    refine AllReadyH.cons (o := { dst := some 51, op := Go.Op.call { callee := Go.Callee.value (Go.Operand.func 18), args := #[Go.Operand.tmp 50], argTypes := #[34] }, type := 3, pos := "law.go:90", after := #[{ on := 15, ground := Go.Ground.data }, { on := 14, ground := Go.Ground.chain }, { on := 12, ground := Go.Ground.guard }], guard := some (12, true) }) rfl (fun K hK => ?_) AllReadyH.nil
    go_simp
    (go_at_call 18; refine (LS.out _ (h16).1.out.2.1 (h16).1.out.2.2.2).mono ?_; rintro e w9 ⟨rfl, hgN⟩)
    first | refine hK.out _ _ ?sa17 (fun h17 => ?_) | (go_wp2_with fail; refine hK.out _ _ ?sa17 (fun h17 => ?_))
    case sa17 => ((try dsimp only); (first | exact HX.out _ _ hgN h16 | exact h16 | exact ⟨Lib.hid ⟨hsN.gr (h16).1.out.1 hw2, hsN.vt hb2 (h16).1.out.2.1, hsN.vt hd3 (h16).1.out.2.2.1, (h16).1.out.2.2.2.sole hsN hg0⟩, hsN.cell ha2 (h16).2⟩))
    clear hK K h16
    try simp only [Act.put, List.setIfInBounds_toArray, List.set_cons_zero, List.set_cons_succ]
    refine wpAnyH_take (i := 17) (oi := { dst := some 52, op := Go.Op.binOp Go.BinOp.leq 3 (Go.Operand.tmp 49) (Go.Operand.tmp 51) 3, type := 4, pos := "law.go:90", after := #[{ on := 14, ground := Go.Ground.data }, { on := 16, ground := Go.Ground.data }, { on := 12, ground := Go.Ground.guard }], guard := some (12, true) }) (v := (.bool true)) rfl (by kernel_rfl) (by kernel_rfl) (by kernel_rfl) (fun _ _ _ h => h) (Or.inl ⟨by rfl, ?ra18⟩) (by assumption) ?_
    case ra18 => (intro w hSw; (try dsimp only at hSw); go_simp; all_goals simp)
    try simp only [Act.put, List.setIfInBounds_toArray, List.set_cons_zero, List.set_cons_succ]
    refine wpAnyH_take (i := 18) (oi := { dst := some 53, op := Go.Op.pick (Go.Operand.tmp 47) (Go.Operand.tmp 52) (Go.Operand.const (Go.Value.bool false)), type := 4, pos := "law.go:90", after := #[{ on := 12, ground := Go.Ground.data }, { on := 17, ground := Go.Ground.data }], guard := none }) (v := ?va19) rfl (by kernel_rfl) (by kernel_rfl) (by kernel_rfl) (fun _ _ _ h => h) (Or.inl ⟨by rfl, ?ra19⟩) (by assumption) ?_
    case ra19 => (intro w hSw; (try dsimp only at hSw); (go_simp <;> with_reducible rfl))
    try simp only [Act.put, List.setIfInBounds_toArray, List.set_cons_zero, List.set_cons_succ]
    refine wpAnyH_take (i := 19) (oi := { dst := some 54, op := Go.Op.move (Go.Operand.tmp 53), type := 4, pos := "law.go:90", after := #[{ on := 18, ground := Go.Ground.data }, { on := 16, ground := Go.Ground.chain }], guard := none }) (v := ?va20) rfl (by kernel_rfl) (by kernel_rfl) (by kernel_rfl) (fun _ _ _ h => h) (Or.inl ⟨by rfl, ?ra20⟩) (by assumption) ?_
    case ra20 => (intro w hSw; (try dsimp only at hSw); (go_simp <;> with_reducible rfl))
    try simp only [Act.put, List.setIfInBounds_toArray, List.set_cons_zero, List.set_cons_succ]
    refine wpAnyH_take (i := 20) (oi := { dst := some 55, op := Go.Op.move (Go.Operand.tmp 10), type := 34, pos := "law.go:90", after := #[{ on := 19, ground := Go.Ground.guard }], guard := some (19, true) }) (v := ?va21) rfl (by kernel_rfl) (by kernel_rfl) (by kernel_rfl) (fun _ _ _ h => h) (Or.inl ⟨by rfl, ?ra21⟩) (by assumption) ?_
    case ra21 => (intro w hSw; (try dsimp only at hSw); (go_simp <;> with_reducible rfl))
    try simp only [Act.put, List.setIfInBounds_toArray, List.set_cons_zero, List.set_cons_succ]
    refine wpAnyH_take (i := 22) (oi := { dst := some 57, op := Go.Op.move (Go.Operand.tmp 9), type := 23, pos := "law.go:90", after := #[{ on := 19, ground := Go.Ground.guard }], guard := some (19, true) }) (v := ?va22) rfl (by kernel_rfl) (by kernel_rfl) (by kernel_rfl) (fun _ _ _ h => h) (Or.inl ⟨by rfl, ?ra22⟩) (by assumption) ?_
    case ra22 => (intro w hSw; (try dsimp only at hSw); (go_simp <;> with_reducible rfl))
    try simp only [Act.put, List.setIfInBounds_toArray, List.set_cons_zero, List.set_cons_succ]
    refine wpAnyH_take (i := 24) (oi := { dst := some 59, op := Go.Op.move (Go.Operand.tmp 10), type := 34, pos := "law.go:90", after := #[{ on := 19, ground := Go.Ground.guard }], guard := some (19, true) }) (v := ?va23) rfl (by kernel_rfl) (by kernel_rfl) (by kernel_rfl) (fun _ _ _ h => h) (Or.inl ⟨by rfl, ?ra23⟩) (by assumption) ?_
    case ra23 => (intro w hSw; (try dsimp only at hSw); (go_simp <;> with_reducible rfl))
    try simp only [Act.put, List.setIfInBounds_toArray, List.set_cons_zero, List.set_cons_succ]
    refine wpAnyH_take (i := 26) (oi := { dst := some 61, op := Go.Op.move (Go.Operand.tmp 7), type := 34, pos := "law.go:90", after := #[{ on := 19, ground := Go.Ground.guard }], guard := some (19, true) }) (v := ?va24) rfl (by kernel_rfl) (by kernel_rfl) (by kernel_rfl) (fun _ _ _ h => h) (Or.inl ⟨by rfl, ?ra24⟩) (by assumption) ?_
    case ra24 => (intro w hSw; (try dsimp only at hSw); (go_simp <;> with_reducible rfl))
    try simp only [Act.put, List.setIfInBounds_toArray, List.set_cons_zero, List.set_cons_succ]
    refine wpAnyH_ready (rs := [21]) (by kernel_rfl) (by simp) ?_
    refine AllReadyH.cons (o := { dst := some 56, op := Go.Op.call { callee := Go.Callee.value (Go.Operand.func 15), args := #[Go.Operand.tmp 55], argTypes := #[34] }, type := 23, pos := "law.go:90", after := #[{ on := 20, ground := Go.Ground.data }, { on := 19, ground := Go.Ground.chain }, { on := 19, ground := Go.Ground.guard }], guard := some (19, true) }) rfl (fun K hK => ?_) AllReadyH.nil
    go_simp
    (go_at_call 15; refine (vSet_any _ (h17).1.out.2.2.1).mono ?_; rintro e w9 ⟨rfl, rfl⟩)
    first | refine hK.out _ _ ?sa25 (fun h25 => ?_) | (go_wp2_with fail; refine hK.out _ _ ?sa25 (fun h25 => ?_))
    case sa25 => ((try dsimp only); (first | exact HX.out _ _ hgN h17 | exact h17 | exact ⟨Lib.hid ⟨hsN.gr (h17).1.out.1 hw2, hsN.vt hb2 (h17).1.out.2.1, hsN.vt hd3 (h17).1.out.2.2.1, (h17).1.out.2.2.2.sole hsN hg0⟩, hsN.cell ha2 (h17).2⟩))
    clear hK K h17
    try simp only [Act.put, List.setIfInBounds_toArray, List.set_cons_zero, List.set_cons_succ]
    refine wpAnyH_take (i := 23) (oi := { dst := some 58, op := Go.Op.binOp Go.BinOp.eql 23 (Go.Operand.tmp 56) (Go.Operand.tmp 57) 23, type := 4, pos := "law.go:90", after := #[{ on := 21, ground := Go.Ground.data }, { on := 22, ground := Go.Ground.data }, { on := 19, ground := Go.Ground.guard }], guard := some (19, true) }) (v := (.bool true)) rfl (by kernel_rfl) (by kernel_rfl) (by kernel_rfl) (fun _ _ _ h => h) (Or.inl ⟨by rfl, ?ra26⟩) (by assumption) ?_
    case ra26 => (intro w hSw; (try dsimp only at hSw); go_simp; all_goals simp)
    try simp only [Act.put, List.setIfInBounds_toArray, List.set_cons_zero, List.set_cons_succ]
    refine wpAnyH_ready (rs := [25]) (by kernel_rfl) (by simp) ?_
    refine AllReadyH.cons (o := { dst := some 60, op := Go.Op.call { callee := Go.Callee.value (Go.Operand.func 18), args := #[Go.Operand.tmp 59], argTypes := #[34] }, type := 3, pos := "law.go:90", after := #[{ on := 24, ground := Go.Ground.data }, { on := 21, ground := Go.Ground.chain }, { on := 19, ground := Go.Ground.guard }], guard := some (19, true) }) rfl (fun K hK => ?_) AllReadyH.nil
    go_simp
    (go_at_call 18; refine (LU.out _ (h25).1.out.2.2.1 (h25).1.out.2.2.2).mono ?_; rintro e w9 ⟨rfl, hgN⟩)
    first | refine hK.out _ _ ?sa27 (fun h27 => ?_) | (go_wp2_with fail; refine hK.out _ _ ?sa27 (fun h27 => ?_))
    case sa27 => ((try dsimp only); (first | exact HX.out _ _ hgN h25 | exact h25 | exact ⟨Lib.hid ⟨hsN.gr (h25).1.out.1 hw2, hsN.vt hb2 (h25).1.out.2.1, hsN.vt hd3 (h25).1.out.2.2.1, (h25).1.out.2.2.2.sole hsN hg0⟩, hsN.cell ha2 (h25).2⟩))
    clear hK K h25
    try simp only [Act.put, List.setIfInBounds_toArray, List.set_cons_zero, List.set_cons_succ]
    refine wpAnyH_ready (rs := [27]) (by kernel_rfl) (by simp) ?_
    refine AllReadyH.cons (o := { dst := some 62, op := Go.Op.call { callee := Go.Callee.value (Go.Operand.func 18), args := #[Go.Operand.tmp 61], argTypes := #[34] }, type := 3, pos := "law.go:90", after := #[{ on := 26, ground := Go.Ground.data }, { on := 25, ground := Go.Ground.chain }, { on := 19, ground := Go.Ground.guard }], guard := some (19, true) }) rfl (fun K hK => ?_) AllReadyH.nil
    go_simp
    (go_at_call 18; refine (LS.out _ (h27).1.out.2.1 (h27).1.out.2.2.2).mono ?_; rintro e w9 ⟨rfl, hgN⟩)
    first | refine hK.out _ _ ?sa28 (fun h28 => ?_) | (go_wp2_with fail; refine hK.out _ _ ?sa28 (fun h28 => ?_))
    case sa28 => ((try dsimp only); (first | exact HX.out _ _ hgN h27 | exact h27 | exact ⟨Lib.hid ⟨hsN.gr (h27).1.out.1 hw2, hsN.vt hb2 (h27).1.out.2.1, hsN.vt hd3 (h27).1.out.2.2.1, (h27).1.out.2.2.2.sole hsN hg0⟩, hsN.cell ha2 (h27).2⟩))
    clear hK K h27
    try simp only [Act.put, List.setIfInBounds_toArray, List.set_cons_zero, List.set_cons_succ]
    refine wpAnyH_take (i := 28) (oi := { dst := some 63, op := Go.Op.binOp Go.BinOp.eql 3 (Go.Operand.tmp 60) (Go.Operand.tmp 62) 3, type := 4, pos := "law.go:90", after := #[{ on := 25, ground := Go.Ground.data }, { on := 27, ground := Go.Ground.data }, { on := 19, ground := Go.Ground.guard }], guard := some (19, true) }) (v := (.bool true)) rfl (by kernel_rfl) (by kernel_rfl) (by kernel_rfl) (fun _ _ _ h => h) (Or.inl ⟨by rfl, ?ra29⟩) (by assumption) ?_
    case ra29 => (intro w hSw; (try dsimp only at hSw); go_simp; all_goals simp)
    try simp only [Act.put, List.setIfInBounds_toArray, List.set_cons_zero, List.set_cons_succ]
    refine wpAnyH_take (i := 29) (oi := { dst := some 64, op := Go.Op.move (Go.Operand.tmp 63), type := 4, pos := "law.go:90", after := #[{ on := 28, ground := Go.Ground.data }, { on := 27, ground := Go.Ground.chain }, { on := 19, ground := Go.Ground.guard }], guard := some (19, true) }) (v := ?va30) rfl (by kernel_rfl) (by kernel_rfl) (by kernel_rfl) (fun _ _ _ h => h) (Or.inl ⟨by rfl, ?ra30⟩) (by assumption) ?_
    case ra30 => (intro w hSw; (try dsimp only at hSw); (go_simp <;> with_reducible rfl))
    try simp only [Act.put, List.setIfInBounds_toArray, List.set_cons_zero, List.set_cons_succ]
    refine wpAnyH_take (i := 30) (oi := { dst := some 65, op := Go.Op.move (Go.Operand.tmp 7), type := 34, pos := "law.go:90", after := #[{ on := 29, ground := Go.Ground.guard }], guard := some (29, true) }) (v := ?va31) rfl (by kernel_rfl) (by kernel_rfl) (by kernel_rfl) (fun _ _ _ h => h) (Or.inl ⟨by rfl, ?ra31⟩) (by assumption) ?_
    case ra31 => (intro w hSw; (try dsimp only at hSw); (go_simp <;> with_reducible rfl))
    try simp only [Act.put, List.setIfInBounds_toArray, List.set_cons_zero, List.set_cons_succ]
    refine wpAnyH_take (i := 32) (oi := { dst := some 67, op := Go.Op.indexAddr 43 (Go.Operand.tmp 5) (Go.Operand.const (Go.Value.int Go.IntKind.i64 1)), type := 0, pos := "law.go:90", after := #[{ on := 29, ground := Go.Ground.guard }], guard := some (29, true) }) (v := ?va32) rfl (by kernel_rfl) (by kernel_rfl) (by kernel_rfl) (fun _ _ _ h => h) (Or.inl ⟨by rfl, ?ra32⟩) (by assumption) ?_
    case ra32 => (intro w hSw; (try dsimp only at hSw); (go_simp <;> with_reducible rfl))
    try simp only [Act.put, List.setIfInBounds_toArray, List.set_cons_zero, List.set_cons_succ]
    refine wpAnyH_take (i := 33) (oi := { dst := some 68, op := Go.Op.load 3 (Go.Operand.tmp 67), type := 3, pos := "law.go:90", after := #[{ on := 32, ground := Go.Ground.data }, { on := 29, ground := Go.Ground.guard }], guard := some (29, true) }) (v := ?va33) rfl (by kernel_rfl) (by kernel_rfl) (by kernel_rfl) (fun _ _ _ h => h) (Or.inl ⟨by rfl, ?ra33⟩) (by assumption) ?_
    case ra33 => (intro w hSw; (try dsimp only at hSw); (go_simp <;> with_reducible rfl))
    try simp only [Act.put, List.setIfInBounds_toArray, List.set_cons_zero, List.set_cons_succ]
    refine wpAnyH_ready (rs := [31]) (by kernel_rfl) (by simp) ?_
    refine AllReadyH.cons (o := { dst := some 66, op := Go.Op.call { callee := Go.Callee.value (Go.Operand.func 20), args := #[Go.Operand.tmp 65], argTypes := #[34] }, type := 34, pos := "law.go:90", after := #[{ on := 30, ground := Go.Ground.data }, { on := 29, ground := Go.Ground.chain }, { on := 29, ground := Go.Ground.guard }], guard := some (29, true) }) rfl (fun K hK => ?_) AllReadyH.nil
    go_simp
    (go_at_call 20; refine (vClone_any _ (h28).1.out.2.1).mono ?_; rintro e w9 ⟨d2, rfl, hd2, hv2, hgN⟩; have hw2 := Nat.le_trans (h28).1.out.1.size hd2; have hb2 := Nat.ne_of_lt (Nat.lt_of_lt_of_le (cell_lt (h28).1.out.2.1.c0) hd2); have hd3 := Nat.ne_of_lt (Nat.lt_of_lt_of_le (cell_lt (h28).1.out.2.2.1.c0) hd2); have ha2 := Nat.ne_of_lt (Nat.lt_of_lt_of_le (cell_lt (h28).2) hd2); have hg0 := tb_ne (h28).1.out.2.2.2 hd2)
    first | refine hK.out _ _ ?sa34 (fun h34 => ?_) | (go_wp2_with fail; refine hK.out _ _ ?sa34 (fun h34 => ?_))
    case sa34 => ((try dsimp only); (first | exact HX.out _ _ hgN h28 | exact h28 | exact ⟨Lib.hid ⟨hsN.gr (h28).1.out.1 hw2, hsN.vt hb2 (h28).1.out.2.1, hsN.vt hd3 (h28).1.out.2.2.1, (h28).1.out.2.2.2.sole hsN hg0⟩, hsN.cell ha2 (h28).2⟩))
    clear hK K h28
    try simp only [Act.put, List.setIfInBounds_toArray, List.set_cons_zero, List.set_cons_succ]
    refine wpAnyH_ready (rs := [34]) (by kernel_rfl) (by simp) ?_
    refine AllReadyH.cons (o := { dst := some 69, op := Go.Op.call { callee := Go.Callee.value (Go.Operand.func 14), args := #[Go.Operand.tmp 66, Go.Operand.tmp 68], argTypes := #[34, 3] }, type := 4, pos := "law.go:90", after := #[{ on := 31, ground := Go.Ground.data }, { on := 33, ground := Go.Ground.data }, { on := 31, ground := Go.Ground.chain }, { on := 29, ground := Go.Ground.guard }], guard := some (29, true) }) rfl (fun K hK => ?_) AllReadyH.nil
    go_simp
    (go_at_call 14; refine (A2.out d2 _ hv2).mono ?_; rintro e w9 ⟨rfl, hvN, hsN⟩)
    first | refine hK.out _ _ ?sa35 (fun h35 => ?_) | (go_wp2_with fail; refine hK.out _ _ ?sa35 (fun h35 => ?_))
    case sa35 => ((try dsimp only); (first | exact HX.out _ _ hgN h34 | exact h34 | exact ⟨Lib.hid ⟨hsN.gr (h34).1.out.1 hw2, hsN.vt hb2 (h34).1.out.2.1, hsN.vt hd3 (h34).1.out.2.2.1, (h34).1.out.2.2.2.sole hsN hg0⟩, hsN.cell ha2 (h34).2⟩))
    clear hK K h34
    try simp only [Act.put, List.setIfInBounds_toArray, List.set_cons_zero, List.set_cons_succ]
    refine wpAnyH_take (i := 35) (oi := { dst := some 70, op := Go.Op.unOp Go.UnOp.not 4 (Go.Operand.tmp 69), type := 4, pos := "law.go:90", after := #[{ on := 34, ground := Go.Ground.data }, { on := 29, ground := Go.Ground.guard }], guard := some (29, true) }) (v := ?va36) rfl (by kernel_rfl) (by kernel_rfl) (by kernel_rfl) (fun _ _ _ h => h) (Or.inl ⟨by rfl, ?ra36⟩) (by assumption) ?_
    case ra36 => (intro w hSw; (try dsimp only at hSw); (go_simp <;> with_reducible rfl))
    try simp only [Act.put, List.setIfInBounds_toArray, List.set_cons_zero, List.set_cons_succ]
    refine wpAnyH_take (i := 36) (oi := { dst := some 71, op := Go.Op.pick (Go.Operand.tmp 64) (Go.Operand.tmp 70) (Go.Operand.const (Go.Value.bool false)), type := 4, pos := "law.go:90", after := #[{ on := 29, ground := Go.Ground.data }, { on := 35, ground := Go.Ground.data }, { on := 19, ground := Go.Ground.guard }], guard := some (19, true) }) (v := ?va37) rfl (by kernel_rfl) (by kernel_rfl) (by kernel_rfl) (fun _ _ _ h => h) (Or.inl ⟨by rfl, ?ra37⟩) (by assumption) ?_
    case ra37 => (intro w hSw; (try dsimp only at hSw); (go_simp <;> with_reducible rfl))
    try simp only [Act.put, List.setIfInBounds_toArray, List.set_cons_zero, List.set_cons_succ]
    refine wpAnyH_take (i := 37) (oi := { dst := some 72, op := Go.Op.binOp Go.BinOp.eql 4 (Go.Operand.tmp 58) (Go.Operand.tmp 71) 4, type := 4, pos := "law.go:90", after := #[{ on := 23, ground := Go.Ground.data }, { on := 36, ground := Go.Ground.data }, { on := 19, ground := Go.Ground.guard }], guard := some (19, true) }) (v := ?va38) rfl (by kernel_rfl) (by kernel_rfl) (by kernel_rfl) (fun _ _ _ h => h) (Or.inl ⟨by rfl, ?ra38⟩) (by assumption) ?_
    case ra38 => (intro w hSw; (try dsimp only at hSw); (go_simp <;> with_reducible rfl))
    try simp only [Act.put, List.setIfInBounds_toArray, List.set_cons_zero, List.set_cons_succ]
    refine wpAnyH_take (i := 38) (oi := { dst := some 73, op := Go.Op.pick (Go.Operand.tmp 54) (Go.Operand.tmp 72) (Go.Operand.const (Go.Value.bool false)), type := 4, pos := "law.go:90", after := #[{ on := 19, ground := Go.Ground.data }, { on := 37, ground := Go.Ground.data }], guard := none }) (v := ?va39) rfl (by kernel_rfl) (by kernel_rfl) (by kernel_rfl) (fun _ _ _ h => h) (Or.inl ⟨by rfl, ?ra39⟩) (by assumption) ?_
    case ra39 => (intro w hSw; (try dsimp only at hSw); (go_simp <;> with_reducible rfl))
    try simp only [Act.put, List.setIfInBounds_toArray, List.set_cons_zero, List.set_cons_succ]
    refine wpAnyH_take (i := 39) (oi := { dst := some 6, op := Go.Op.assign (Go.Operand.tmp 73), type := 4, pos := "law.go:90", after := #[{ on := 38, ground := Go.Ground.data }, { on := 34, ground := Go.Ground.chain }, { on := 0, ground := Go.Ground.phase }, { on := 1, ground := Go.Ground.phase }, { on := 2, ground := Go.Ground.phase }, { on := 3, ground := Go.Ground.phase }, { on := 4, ground := Go.Ground.phase }, { on := 5, ground := Go.Ground.phase }, { on := 6, ground := Go.Ground.phase }, { on := 7, ground := Go.Ground.phase }, { on := 8, ground := Go.Ground.phase }, { on := 9, ground := Go.Ground.phase }, { on := 10, ground := Go.Ground.phase }, { on := 11, ground := Go.Ground.phase }, { on := 12, ground := Go.Ground.phase }, { on := 13, ground := Go.Ground.phase }, { on := 14, ground := Go.Ground.phase }, { on := 15, ground := Go.Ground.phase }, { on := 16, ground := Go.Ground.phase }, { on := 17, ground := Go.Ground.phase }, { on := 18, ground := Go.Ground.phase }, { on := 19, ground := Go.Ground.phase }, { on := 20, ground := Go.Ground.phase }, { on := 21, ground := Go.Ground.phase }, { on := 22, ground := Go.Ground.phase }, { on := 23, ground := Go.Ground.phase }, { on := 24, ground := Go.Ground.phase }, { on := 25, ground := Go.Ground.phase }, { on := 26, ground := Go.Ground.phase }, { on := 27, ground := Go.Ground.phase }, { on := 28, ground := Go.Ground.phase }, { on := 29, ground := Go.Ground.phase }, { on := 30, ground := Go.Ground.phase }, { on := 31, ground := Go.Ground.phase }, { on := 32, ground := Go.Ground.phase }, { on := 33, ground := Go.Ground.phase }, { on := 34, ground := Go.Ground.phase }, { on := 35, ground := Go.Ground.phase }, { on := 36, ground := Go.Ground.phase }, { on := 37, ground := Go.Ground.phase }, { on := 38, ground := Go.Ground.phase }], guard := none }) (v := ?va40) rfl (by kernel_rfl) (by kernel_rfl) (by kernel_rfl) (fun _ _ _ h => h) (Or.inl ⟨by rfl, ?ra40⟩) (by assumption) ?_
    case ra40 => (intro w hSw; (try dsimp only at hSw); (go_simp <;> with_reducible rfl))
    try simp only [Act.put, List.setIfInBounds_toArray, List.set_cons_zero, List.set_cons_succ]
    refine wpAnyH_done (by kernel_rfl) ?_ _
    have HE := Lib.hid (h35).1.out.1
    clear h35
    go_wp2
    go_ret
    exact ⟨rfl, HE.out⟩
  · have A2 := Lib.hid (fun d w h => vAdd_to HR.out W2.out hfr rfl w h (b := d) (f := f))
    have hne := NE.out hfr
    clear hfr NE HAS
    generalize addS r p s l1 = u at *
    generalize least r p z n s = ls at *
    generalize least r p z n u = lu at *
    by_cases hll : lu = ls
    · subst hll
      go_wp2
      have HS0 : (fun w9 => Hid (Gr w w9 ∧ VtIs w9 b r p W z1 n1 z2 n2 f s ∧ VtIs w9 d r p W z1 n1 z2 n2 f u ∧ TB w9) ∧ w9.cell? ⟨ab, 1, none⟩ = some (.int .i64 l1)) w8 := ⟨Lib.hid ⟨HG8.out, HV8.out, HD8.out, HT8.out⟩, l1c⟩
      have HX : Hid (∀ w0 w9 : World, Gr w0 w9 → (fun w9 => Hid (Gr w w9 ∧ VtIs w9 b r p W z1 n1 z2 n2 f s ∧ VtIs w9 d r p W z1 n1 z2 n2 f u ∧ TB w9) ∧ w9.cell? ⟨ab, 1, none⟩ = some (.int .i64 l1)) w0 → (fun w9 => Hid (Gr w w9 ∧ VtIs w9 b r p W z1 n1 z2 n2 f s ∧ VtIs w9 d r p W z1 n1 z2 n2 f u ∧ TB w9) ∧ w9.cell? ⟨ab, 1, none⟩ = some (.int .i64 l1)) w9) := Lib.hid fun w0 w9 hg ⟨h, q0⟩ => ⟨Lib.hid ⟨h.out.1.trans hg, h.out.2.1.gr hg, h.out.2.2.1.gr hg, h.out.2.2.2.gr hg⟩, hg.cell q0⟩
      refine wp_region_held_drew (S := (fun w9 => Hid (Gr w w9 ∧ VtIs w9 b r p W z1 n1 z2 n2 f s ∧ VtIs w9 d r p W z1 n1 z2 n2 f u ∧ TB w9) ∧ w9.cell? ⟨ab, 1, none⟩ = some (.int .i64 l1))) (by kernel_rfl) ?invb (fun h0 => ?_)
      case invb => ((try dsimp only); (first | exact HS0 | exact HX.out _ _ ((Gr.refl _).drew) HS0))
      refine wpAnyH_take (i := 0) (oi := { dst := some 35, op := Go.Op.move (Go.Operand.tmp 7), type := 34, pos := "law.go:90", after := #[], guard := none }) (v := ?vb1) rfl (by kernel_rfl) (by kernel_rfl) (by kernel_rfl) (fun _ _ _ h => h) (Or.inl ⟨by rfl, ?rb1⟩) (by assumption) ?_
      case rb1 => (intro w hSw; (try dsimp only at hSw); (go_simp <;> with_reducible rfl))
      try simp only [Act.put, List.setIfInBounds_toArray, List.set_cons_zero, List.set_cons_succ]
      refine wpAnyH_take (i := 2) (oi := { dst := some 37, op := Go.Op.move (Go.Operand.tmp 9), type := 23, pos := "law.go:90", after := #[], guard := none }) (v := ?vb2) rfl (by kernel_rfl) (by kernel_rfl) (by kernel_rfl) (fun _ _ _ h => h) (Or.inl ⟨by rfl, ?rb2⟩) (by assumption) ?_
      case rb2 => (intro w hSw; (try dsimp only at hSw); (go_simp <;> with_reducible rfl))
      try simp only [Act.put, List.setIfInBounds_toArray, List.set_cons_zero, List.set_cons_succ]
      refine wpAnyH_ready (rs := [1]) (by kernel_rfl) (by simp) ?_
      refine AllReadyH.cons (o := { dst := some 36, op := Go.Op.call { callee := Go.Callee.value (Go.Operand.func 15), args := #[Go.Operand.tmp 35], argTypes := #[34] }, type := 23, pos := "law.go:90", after := #[{ on := 0, ground := Go.Ground.data }], guard := none }) rfl (fun K hK => ?_) AllReadyH.nil
      go_simp
      (go_at_call 15; refine (vSet_any _ (h0).1.out.2.1).mono ?_; rintro e w9 ⟨rfl, rfl⟩)
      first | refine hK.out _ _ ?sb3 (fun h3 => ?_) | (go_wp2_with fail; refine hK.out _ _ ?sb3 (fun h3 => ?_))
      case sb3 => ((try dsimp only); (first | exact HX.out _ _ hgN h0 | exact h0 | exact ⟨Lib.hid ⟨hsN.gr (h0).1.out.1 hw2, hsN.vt hb2 (h0).1.out.2.1, hsN.vt hd3 (h0).1.out.2.2.1, (h0).1.out.2.2.2.sole hsN hg0⟩, hsN.cell ha2 (h0).2⟩))
      clear hK K h0
      try simp only [Act.put, List.setIfInBounds_toArray, List.set_cons_zero, List.set_cons_succ]
      refine wpAnyH_take (i := 3) (oi := { dst := some 38, op := Go.Op.binOp Go.BinOp.eql 23 (Go.Operand.tmp 36) (Go.Operand.tmp 37) 23, type := 4, pos := "law.go:90", after := #[{ on := 1, ground := Go.Ground.data }, { on := 2, ground := Go.Ground.data }], guard := none }) (v := (.bool true)) rfl (by kernel_rfl) (by kernel_rfl) (by kernel_rfl) (fun _ _ _ h => h) (Or.inl ⟨by rfl, ?rb4⟩) (by assumption) ?_
      case rb4 => (intro w hSw; (try dsimp only at hSw); go_simp; all_goals simp)
      try simp only [Act.put, List.setIfInBounds_toArray, List.set_cons_zero, List.set_cons_succ]
      refine wpAnyH_take (i := 4) (oi := { dst := some 39, op := Go.Op.move (Go.Operand.tmp 38), type := 4, pos := "law.go:90", after := #[{ on := 3, ground := Go.Ground.data }, { on := 1, ground := Go.Ground.chain }], guard := none }) (v := ?vb5) rfl (by kernel_rfl) (by kernel_rfl) (by kernel_rfl) (fun _ _ _ h => h) (Or.inl ⟨by rfl, ?rb5⟩) (by assumption) ?_
      case rb5 => (intro w hSw; (try dsimp only at hSw); (go_simp <;> with_reducible rfl))
      try simp only [Act.put, List.setIfInBounds_toArray, List.set_cons_zero, List.set_cons_succ]
      refine wpAnyH_take (i := 5) (oi := { dst := some 40, op := Go.Op.move (Go.Operand.tmp 10), type := 34, pos := "law.go:90", after := #[{ on := 4, ground := Go.Ground.guard }], guard := some (4, true) }) (v := ?vb6) rfl (by kernel_rfl) (by kernel_rfl) (by kernel_rfl) (fun _ _ _ h => h) (Or.inl ⟨by rfl, ?rb6⟩) (by assumption) ?_
      case rb6 => (intro w hSw; (try dsimp only at hSw); (go_simp <;> with_reducible rfl))
      try simp only [Act.put, List.setIfInBounds_toArray, List.set_cons_zero, List.set_cons_succ]
      refine wpAnyH_take (i := 7) (oi := { dst := some 42, op := Go.Op.move (Go.Operand.tmp 9), type := 23, pos := "law.go:90", after := #[{ on := 4, ground := Go.Ground.guard }], guard := some (4, true) }) (v := ?vb7) rfl (by kernel_rfl) (by kernel_rfl) (by kernel_rfl) (fun _ _ _ h => h) (Or.inl ⟨by rfl, ?rb7⟩) (by assumption) ?_
      case rb7 => (intro w hSw; (try dsimp only at hSw); (go_simp <;> with_reducible rfl))
      try simp only [Act.put, List.setIfInBounds_toArray, List.set_cons_zero, List.set_cons_succ]
      refine wpAnyH_take (i := 9) (oi := { dst := some 44, op := Go.Op.move (Go.Operand.tmp 9), type := 23, pos := "law.go:90", after := #[{ on := 4, ground := Go.Ground.guard }], guard := some (4, true) }) (v := ?vb8) rfl (by kernel_rfl) (by kernel_rfl) (by kernel_rfl) (fun _ _ _ h => h) (Or.inl ⟨by rfl, ?rb8⟩) (by assumption) ?_
      case rb8 => (intro w hSw; (try dsimp only at hSw); (go_simp <;> with_reducible rfl))
      try simp only [Act.put, List.setIfInBounds_toArray, List.set_cons_zero, List.set_cons_succ]
      refine wpAnyH_ready (rs := [6]) (by kernel_rfl) (by simp) ?_
      refine AllReadyH.cons (o := { dst := some 41, op := Go.Op.call { callee := Go.Callee.value (Go.Operand.func 15), args := #[Go.Operand.tmp 40], argTypes := #[34] }, type := 23, pos := "law.go:90", after := #[{ on := 5, ground := Go.Ground.data }, { on := 4, ground := Go.Ground.chain }, { on := 4, ground := Go.Ground.guard }], guard := some (4, true) }) rfl (fun K hK => ?_) AllReadyH.nil
      go_simp
      (go_at_call 15; refine (vSet_any _ (h3).1.out.2.2.1).mono ?_; rintro e w9 ⟨rfl, rfl⟩)
      first | refine hK.out _ _ ?sb9 (fun h9 => ?_) | (go_wp2_with fail; refine hK.out _ _ ?sb9 (fun h9 => ?_))
      case sb9 => ((try dsimp only); (first | exact HX.out _ _ hgN h3 | exact h3 | exact ⟨Lib.hid ⟨hsN.gr (h3).1.out.1 hw2, hsN.vt hb2 (h3).1.out.2.1, hsN.vt hd3 (h3).1.out.2.2.1, (h3).1.out.2.2.2.sole hsN hg0⟩, hsN.cell ha2 (h3).2⟩))
      clear hK K h3
      try simp only [Act.put, List.setIfInBounds_toArray, List.set_cons_zero, List.set_cons_succ]
      refine wpAnyH_take (i := 8) (oi := { dst := some 43, op := Go.Op.binOp Go.BinOp.and 23 (Go.Operand.tmp 41) (Go.Operand.tmp 42) 23, type := 23, pos := "law.go:90", after := #[{ on := 6, ground := Go.Ground.data }, { on := 7, ground := Go.Ground.data }, { on := 4, ground := Go.Ground.guard }], guard := some (4, true) }) (v := (.int .u32 (s : Nat))) rfl (by kernel_rfl) (by kernel_rfl) (by kernel_rfl) (fun _ _ _ h => h) (Or.inl ⟨by rfl, ?rb10⟩) (by assumption) ?_
      case rb10 => (intro w hSw; (try dsimp only at hSw); go_simp; all_goals simp [HAN.out])
      try simp only [Act.put, List.setIfInBounds_toArray, List.set_cons_zero, List.set_cons_succ]
      refine wpAnyH_take (i := 10) (oi := { dst := some 45, op := Go.Op.binOp Go.BinOp.eql 23 (Go.Operand.tmp 43) (Go.Operand.tmp 44) 23, type := 4, pos := "law.go:90", after := #[{ on := 8, ground := Go.Ground.data }, { on := 9, ground := Go.Ground.data }, { on := 4, ground := Go.Ground.guard }], guard := some (4, true) }) (v := (.bool true)) rfl (by kernel_rfl) (by kernel_rfl) (by kernel_rfl) (fun _ _ _ h => h) (Or.inl ⟨by rfl, ?rb11⟩) (by assumption) ?_
      case rb11 => (intro w hSw; (try dsimp only at hSw); go_simp; all_goals simp)
      try simp only [Act.put, List.setIfInBounds_toArray, List.set_cons_zero, List.set_cons_succ]
      refine wpAnyH_take (i := 11) (oi := { dst := some 46, op := Go.Op.pick (Go.Operand.tmp 39) (Go.Operand.tmp 45) (Go.Operand.const (Go.Value.bool false)), type := 4, pos := "law.go:90", after := #[{ on := 4, ground := Go.Ground.data }, { on := 10, ground := Go.Ground.data }], guard := none }) (v := ?vb12) rfl (by kernel_rfl) (by kernel_rfl) (by kernel_rfl) (fun _ _ _ h => h) (Or.inl ⟨by rfl, ?rb12⟩) (by assumption) ?_
      case rb12 => (intro w hSw; (try dsimp only at hSw); (go_simp <;> with_reducible rfl))
      try simp only [Act.put, List.setIfInBounds_toArray, List.set_cons_zero, List.set_cons_succ]
      refine wpAnyH_take (i := 12) (oi := { dst := some 47, op := Go.Op.move (Go.Operand.tmp 46), type := 4, pos := "law.go:90", after := #[{ on := 11, ground := Go.Ground.data }, { on := 6, ground := Go.Ground.chain }], guard := none }) (v := ?vb13) rfl (by kernel_rfl) (by kernel_rfl) (by kernel_rfl) (fun _ _ _ h => h) (Or.inl ⟨by rfl, ?rb13⟩) (by assumption) ?_
      case rb13 => (intro w hSw; (try dsimp only at hSw); (go_simp <;> with_reducible rfl))
      try simp only [Act.put, List.setIfInBounds_toArray, List.set_cons_zero, List.set_cons_succ]
      refine wpAnyH_take (i := 13) (oi := { dst := some 48, op := Go.Op.move (Go.Operand.tmp 10), type := 34, pos := "law.go:90", after := #[{ on := 12, ground := Go.Ground.guard }], guard := some (12, true) }) (v := ?vb14) rfl (by kernel_rfl) (by kernel_rfl) (by kernel_rfl) (fun _ _ _ h => h) (Or.inl ⟨by rfl, ?rb14⟩) (by assumption) ?_
      case rb14 => (intro w hSw; (try dsimp only at hSw); (go_simp <;> with_reducible rfl))
      try simp only [Act.put, List.setIfInBounds_toArray, List.set_cons_zero, List.set_cons_succ]
      refine wpAnyH_take (i := 15) (oi := { dst := some 50, op := Go.Op.move (Go.Operand.tmp 7), type := 34, pos := "law.go:90", after := #[{ on := 12, ground := Go.Ground.guard }], guard := some (12, true) }) (v := ?vb15) rfl (by kernel_rfl) (by kernel_rfl) (by kernel_rfl) (fun _ _ _ h => h) (Or.inl ⟨by rfl, ?rb15⟩) (by assumption) ?_
      case rb15 => (intro w hSw; (try dsimp only at hSw); (go_simp <;> with_reducible rfl))
      try simp only [Act.put, List.setIfInBounds_toArray, List.set_cons_zero, List.set_cons_succ]
      refine wpAnyH_ready (rs := [14]) (by kernel_rfl) (by simp) ?_
      refine AllReadyH.cons (o := { dst := some 49, op := Go.Op.call { callee := Go.Callee.value (Go.Operand.func 18), args := #[Go.Operand.tmp 48], argTypes := #[34] }, type := 3, pos := "law.go:90", after := #[{ on := 13, ground := Go.Ground.data }, { on := 12, ground := Go.Ground.chain }, { on := 12, ground := Go.Ground.guard }], guard := some (12, true) }) rfl (fun K hK => ?_) AllReadyH.nil
      go_simp
      (go_at_call 18; refine (LU.out _ (h9).1.out.2.2.1 (h9).1.out.2.2.2).mono ?_; rintro e w9 ⟨rfl, hgN⟩)
      first | refine hK.out _ _ ?sb16 (fun h16 => ?_) | (go_wp2_with fail; refine hK.out _ _ ?sb16 (fun h16 => ?_))
      case sb16 => ((try dsimp only); (first | exact HX.out _ _ hgN h9 | exact h9 | exact ⟨Lib.hid ⟨hsN.gr (h9).1.out.1 hw2, hsN.vt hb2 (h9).1.out.2.1, hsN.vt hd3 (h9).1.out.2.2.1, (h9).1.out.2.2.2.sole hsN hg0⟩, hsN.cell ha2 (h9).2⟩))
      clear hK K h9
      try simp only [Act.put, List.setIfInBounds_toArray, List.set_cons_zero, List.set_cons_succ]
      refine wpAnyH_ready (rs := [16]) (by kernel_rfl) (by simp) ?_
      refine AllReadyH.cons (o := { dst := some 51, op := Go.Op.call { callee := Go.Callee.value (Go.Operand.func 18), args := #[Go.Operand.tmp 50], argTypes := #[34] }, type := 3, pos := "law.go:90", after := #[{ on := 15, ground := Go.Ground.data }, { on := 14, ground := Go.Ground.chain }, { on := 12, ground := Go.Ground.guard }], guard := some (12, true) }) rfl (fun K hK => ?_) AllReadyH.nil
      go_simp
      (go_at_call 18; refine (LS.out _ (h16).1.out.2.1 (h16).1.out.2.2.2).mono ?_; rintro e w9 ⟨rfl, hgN⟩)
      first | refine hK.out _ _ ?sb17 (fun h17 => ?_) | (go_wp2_with fail; refine hK.out _ _ ?sb17 (fun h17 => ?_))
      case sb17 => ((try dsimp only); (first | exact HX.out _ _ hgN h16 | exact h16 | exact ⟨Lib.hid ⟨hsN.gr (h16).1.out.1 hw2, hsN.vt hb2 (h16).1.out.2.1, hsN.vt hd3 (h16).1.out.2.2.1, (h16).1.out.2.2.2.sole hsN hg0⟩, hsN.cell ha2 (h16).2⟩))
      clear hK K h16
      try simp only [Act.put, List.setIfInBounds_toArray, List.set_cons_zero, List.set_cons_succ]
      refine wpAnyH_take (i := 17) (oi := { dst := some 52, op := Go.Op.binOp Go.BinOp.leq 3 (Go.Operand.tmp 49) (Go.Operand.tmp 51) 3, type := 4, pos := "law.go:90", after := #[{ on := 14, ground := Go.Ground.data }, { on := 16, ground := Go.Ground.data }, { on := 12, ground := Go.Ground.guard }], guard := some (12, true) }) (v := (.bool true)) rfl (by kernel_rfl) (by kernel_rfl) (by kernel_rfl) (fun _ _ _ h => h) (Or.inl ⟨by rfl, ?rb18⟩) (by assumption) ?_
      case rb18 => (intro w hSw; (try dsimp only at hSw); go_simp; all_goals simp)
      try simp only [Act.put, List.setIfInBounds_toArray, List.set_cons_zero, List.set_cons_succ]
      refine wpAnyH_take (i := 18) (oi := { dst := some 53, op := Go.Op.pick (Go.Operand.tmp 47) (Go.Operand.tmp 52) (Go.Operand.const (Go.Value.bool false)), type := 4, pos := "law.go:90", after := #[{ on := 12, ground := Go.Ground.data }, { on := 17, ground := Go.Ground.data }], guard := none }) (v := ?vb19) rfl (by kernel_rfl) (by kernel_rfl) (by kernel_rfl) (fun _ _ _ h => h) (Or.inl ⟨by rfl, ?rb19⟩) (by assumption) ?_
      case rb19 => (intro w hSw; (try dsimp only at hSw); (go_simp <;> with_reducible rfl))
      try simp only [Act.put, List.setIfInBounds_toArray, List.set_cons_zero, List.set_cons_succ]
      refine wpAnyH_take (i := 19) (oi := { dst := some 54, op := Go.Op.move (Go.Operand.tmp 53), type := 4, pos := "law.go:90", after := #[{ on := 18, ground := Go.Ground.data }, { on := 16, ground := Go.Ground.chain }], guard := none }) (v := ?vb20) rfl (by kernel_rfl) (by kernel_rfl) (by kernel_rfl) (fun _ _ _ h => h) (Or.inl ⟨by rfl, ?rb20⟩) (by assumption) ?_
      case rb20 => (intro w hSw; (try dsimp only at hSw); (go_simp <;> with_reducible rfl))
      try simp only [Act.put, List.setIfInBounds_toArray, List.set_cons_zero, List.set_cons_succ]
      refine wpAnyH_take (i := 20) (oi := { dst := some 55, op := Go.Op.move (Go.Operand.tmp 10), type := 34, pos := "law.go:90", after := #[{ on := 19, ground := Go.Ground.guard }], guard := some (19, true) }) (v := ?vb21) rfl (by kernel_rfl) (by kernel_rfl) (by kernel_rfl) (fun _ _ _ h => h) (Or.inl ⟨by rfl, ?rb21⟩) (by assumption) ?_
      case rb21 => (intro w hSw; (try dsimp only at hSw); (go_simp <;> with_reducible rfl))
      try simp only [Act.put, List.setIfInBounds_toArray, List.set_cons_zero, List.set_cons_succ]
      refine wpAnyH_take (i := 22) (oi := { dst := some 57, op := Go.Op.move (Go.Operand.tmp 9), type := 23, pos := "law.go:90", after := #[{ on := 19, ground := Go.Ground.guard }], guard := some (19, true) }) (v := ?vb22) rfl (by kernel_rfl) (by kernel_rfl) (by kernel_rfl) (fun _ _ _ h => h) (Or.inl ⟨by rfl, ?rb22⟩) (by assumption) ?_
      case rb22 => (intro w hSw; (try dsimp only at hSw); (go_simp <;> with_reducible rfl))
      try simp only [Act.put, List.setIfInBounds_toArray, List.set_cons_zero, List.set_cons_succ]
      refine wpAnyH_take (i := 24) (oi := { dst := some 59, op := Go.Op.move (Go.Operand.tmp 10), type := 34, pos := "law.go:90", after := #[{ on := 19, ground := Go.Ground.guard }], guard := some (19, true) }) (v := ?vb23) rfl (by kernel_rfl) (by kernel_rfl) (by kernel_rfl) (fun _ _ _ h => h) (Or.inl ⟨by rfl, ?rb23⟩) (by assumption) ?_
      case rb23 => (intro w hSw; (try dsimp only at hSw); (go_simp <;> with_reducible rfl))
      try simp only [Act.put, List.setIfInBounds_toArray, List.set_cons_zero, List.set_cons_succ]
      refine wpAnyH_take (i := 26) (oi := { dst := some 61, op := Go.Op.move (Go.Operand.tmp 7), type := 34, pos := "law.go:90", after := #[{ on := 19, ground := Go.Ground.guard }], guard := some (19, true) }) (v := ?vb24) rfl (by kernel_rfl) (by kernel_rfl) (by kernel_rfl) (fun _ _ _ h => h) (Or.inl ⟨by rfl, ?rb24⟩) (by assumption) ?_
      case rb24 => (intro w hSw; (try dsimp only at hSw); (go_simp <;> with_reducible rfl))
      try simp only [Act.put, List.setIfInBounds_toArray, List.set_cons_zero, List.set_cons_succ]
      refine wpAnyH_ready (rs := [21]) (by kernel_rfl) (by simp) ?_
      refine AllReadyH.cons (o := { dst := some 56, op := Go.Op.call { callee := Go.Callee.value (Go.Operand.func 15), args := #[Go.Operand.tmp 55], argTypes := #[34] }, type := 23, pos := "law.go:90", after := #[{ on := 20, ground := Go.Ground.data }, { on := 19, ground := Go.Ground.chain }, { on := 19, ground := Go.Ground.guard }], guard := some (19, true) }) rfl (fun K hK => ?_) AllReadyH.nil
      go_simp
      (go_at_call 15; refine (vSet_any _ (h17).1.out.2.2.1).mono ?_; rintro e w9 ⟨rfl, rfl⟩)
      first | refine hK.out _ _ ?sb25 (fun h25 => ?_) | (go_wp2_with fail; refine hK.out _ _ ?sb25 (fun h25 => ?_))
      case sb25 => ((try dsimp only); (first | exact HX.out _ _ hgN h17 | exact h17 | exact ⟨Lib.hid ⟨hsN.gr (h17).1.out.1 hw2, hsN.vt hb2 (h17).1.out.2.1, hsN.vt hd3 (h17).1.out.2.2.1, (h17).1.out.2.2.2.sole hsN hg0⟩, hsN.cell ha2 (h17).2⟩))
      clear hK K h17
      try simp only [Act.put, List.setIfInBounds_toArray, List.set_cons_zero, List.set_cons_succ]
      refine wpAnyH_take (i := 23) (oi := { dst := some 58, op := Go.Op.binOp Go.BinOp.eql 23 (Go.Operand.tmp 56) (Go.Operand.tmp 57) 23, type := 4, pos := "law.go:90", after := #[{ on := 21, ground := Go.Ground.data }, { on := 22, ground := Go.Ground.data }, { on := 19, ground := Go.Ground.guard }], guard := some (19, true) }) (v := (.bool false)) rfl (by kernel_rfl) (by kernel_rfl) (by kernel_rfl) (fun _ _ _ h => h) (Or.inl ⟨by rfl, ?rb26⟩) (by assumption) ?_
      case rb26 => (intro w hSw; (try dsimp only at hSw); go_simp; all_goals (first | (simp; done) | (simp; omega) | omega))
      try simp only [Act.put, List.setIfInBounds_toArray, List.set_cons_zero, List.set_cons_succ]
      refine wpAnyH_ready (rs := [25]) (by kernel_rfl) (by simp) ?_
      refine AllReadyH.cons (o := { dst := some 60, op := Go.Op.call { callee := Go.Callee.value (Go.Operand.func 18), args := #[Go.Operand.tmp 59], argTypes := #[34] }, type := 3, pos := "law.go:90", after := #[{ on := 24, ground := Go.Ground.data }, { on := 21, ground := Go.Ground.chain }, { on := 19, ground := Go.Ground.guard }], guard := some (19, true) }) rfl (fun K hK => ?_) AllReadyH.nil
      go_simp
      (go_at_call 18; refine (LU.out _ (h25).1.out.2.2.1 (h25).1.out.2.2.2).mono ?_; rintro e w9 ⟨rfl, hgN⟩)
      first | refine hK.out _ _ ?sb27 (fun h27 => ?_) | (go_wp2_with fail; refine hK.out _ _ ?sb27 (fun h27 => ?_))
      case sb27 => ((try dsimp only); (first | exact HX.out _ _ hgN h25 | exact h25 | exact ⟨Lib.hid ⟨hsN.gr (h25).1.out.1 hw2, hsN.vt hb2 (h25).1.out.2.1, hsN.vt hd3 (h25).1.out.2.2.1, (h25).1.out.2.2.2.sole hsN hg0⟩, hsN.cell ha2 (h25).2⟩))
      clear hK K h25
      try simp only [Act.put, List.setIfInBounds_toArray, List.set_cons_zero, List.set_cons_succ]
      refine wpAnyH_ready (rs := [27]) (by kernel_rfl) (by simp) ?_
      refine AllReadyH.cons (o := { dst := some 62, op := Go.Op.call { callee := Go.Callee.value (Go.Operand.func 18), args := #[Go.Operand.tmp 61], argTypes := #[34] }, type := 3, pos := "law.go:90", after := #[{ on := 26, ground := Go.Ground.data }, { on := 25, ground := Go.Ground.chain }, { on := 19, ground := Go.Ground.guard }], guard := some (19, true) }) rfl (fun K hK => ?_) AllReadyH.nil
      go_simp
      (go_at_call 18; refine (LS.out _ (h27).1.out.2.1 (h27).1.out.2.2.2).mono ?_; rintro e w9 ⟨rfl, hgN⟩)
      first | refine hK.out _ _ ?sb28 (fun h28 => ?_) | (go_wp2_with fail; refine hK.out _ _ ?sb28 (fun h28 => ?_))
      case sb28 => ((try dsimp only); (first | exact HX.out _ _ hgN h27 | exact h27 | exact ⟨Lib.hid ⟨hsN.gr (h27).1.out.1 hw2, hsN.vt hb2 (h27).1.out.2.1, hsN.vt hd3 (h27).1.out.2.2.1, (h27).1.out.2.2.2.sole hsN hg0⟩, hsN.cell ha2 (h27).2⟩))
      clear hK K h27
      try simp only [Act.put, List.setIfInBounds_toArray, List.set_cons_zero, List.set_cons_succ]
      refine wpAnyH_take (i := 28) (oi := { dst := some 63, op := Go.Op.binOp Go.BinOp.eql 3 (Go.Operand.tmp 60) (Go.Operand.tmp 62) 3, type := 4, pos := "law.go:90", after := #[{ on := 25, ground := Go.Ground.data }, { on := 27, ground := Go.Ground.data }, { on := 19, ground := Go.Ground.guard }], guard := some (19, true) }) (v := (.bool true)) rfl (by kernel_rfl) (by kernel_rfl) (by kernel_rfl) (fun _ _ _ h => h) (Or.inl ⟨by rfl, ?rb29⟩) (by assumption) ?_
      case rb29 => (intro w hSw; (try dsimp only at hSw); go_simp; all_goals simp)
      try simp only [Act.put, List.setIfInBounds_toArray, List.set_cons_zero, List.set_cons_succ]
      refine wpAnyH_take (i := 29) (oi := { dst := some 64, op := Go.Op.move (Go.Operand.tmp 63), type := 4, pos := "law.go:90", after := #[{ on := 28, ground := Go.Ground.data }, { on := 27, ground := Go.Ground.chain }, { on := 19, ground := Go.Ground.guard }], guard := some (19, true) }) (v := ?vb30) rfl (by kernel_rfl) (by kernel_rfl) (by kernel_rfl) (fun _ _ _ h => h) (Or.inl ⟨by rfl, ?rb30⟩) (by assumption) ?_
      case rb30 => (intro w hSw; (try dsimp only at hSw); (go_simp <;> with_reducible rfl))
      try simp only [Act.put, List.setIfInBounds_toArray, List.set_cons_zero, List.set_cons_succ]
      refine wpAnyH_take (i := 30) (oi := { dst := some 65, op := Go.Op.move (Go.Operand.tmp 7), type := 34, pos := "law.go:90", after := #[{ on := 29, ground := Go.Ground.guard }], guard := some (29, true) }) (v := ?vb31) rfl (by kernel_rfl) (by kernel_rfl) (by kernel_rfl) (fun _ _ _ h => h) (Or.inl ⟨by rfl, ?rb31⟩) (by assumption) ?_
      case rb31 => (intro w hSw; (try dsimp only at hSw); (go_simp <;> with_reducible rfl))
      try simp only [Act.put, List.setIfInBounds_toArray, List.set_cons_zero, List.set_cons_succ]
      refine wpAnyH_take (i := 32) (oi := { dst := some 67, op := Go.Op.indexAddr 43 (Go.Operand.tmp 5) (Go.Operand.const (Go.Value.int Go.IntKind.i64 1)), type := 0, pos := "law.go:90", after := #[{ on := 29, ground := Go.Ground.guard }], guard := some (29, true) }) (v := ?vb32) rfl (by kernel_rfl) (by kernel_rfl) (by kernel_rfl) (fun _ _ _ h => h) (Or.inl ⟨by rfl, ?rb32⟩) (by assumption) ?_
      case rb32 => (intro w hSw; (try dsimp only at hSw); (go_simp <;> with_reducible rfl))
      try simp only [Act.put, List.setIfInBounds_toArray, List.set_cons_zero, List.set_cons_succ]
      refine wpAnyH_take (i := 33) (oi := { dst := some 68, op := Go.Op.load 3 (Go.Operand.tmp 67), type := 3, pos := "law.go:90", after := #[{ on := 32, ground := Go.Ground.data }, { on := 29, ground := Go.Ground.guard }], guard := some (29, true) }) (v := ?vb33) rfl (by kernel_rfl) (by kernel_rfl) (by kernel_rfl) (fun _ _ _ h => h) (Or.inl ⟨by rfl, ?rb33⟩) (by assumption) ?_
      case rb33 => (intro w hSw; (try dsimp only at hSw); (go_simp <;> with_reducible rfl))
      try simp only [Act.put, List.setIfInBounds_toArray, List.set_cons_zero, List.set_cons_succ]
      refine wpAnyH_ready (rs := [31]) (by kernel_rfl) (by simp) ?_
      refine AllReadyH.cons (o := { dst := some 66, op := Go.Op.call { callee := Go.Callee.value (Go.Operand.func 20), args := #[Go.Operand.tmp 65], argTypes := #[34] }, type := 34, pos := "law.go:90", after := #[{ on := 30, ground := Go.Ground.data }, { on := 29, ground := Go.Ground.chain }, { on := 29, ground := Go.Ground.guard }], guard := some (29, true) }) rfl (fun K hK => ?_) AllReadyH.nil
      go_simp
      (go_at_call 20; refine (vClone_any _ (h28).1.out.2.1).mono ?_; rintro e w9 ⟨d2, rfl, hd2, hv2, hgN⟩; have hw2 := Nat.le_trans (h28).1.out.1.size hd2; have hb2 := Nat.ne_of_lt (Nat.lt_of_lt_of_le (cell_lt (h28).1.out.2.1.c0) hd2); have hd3 := Nat.ne_of_lt (Nat.lt_of_lt_of_le (cell_lt (h28).1.out.2.2.1.c0) hd2); have ha2 := Nat.ne_of_lt (Nat.lt_of_lt_of_le (cell_lt (h28).2) hd2); have hg0 := tb_ne (h28).1.out.2.2.2 hd2)
      first | refine hK.out _ _ ?sb34 (fun h34 => ?_) | (go_wp2_with fail; refine hK.out _ _ ?sb34 (fun h34 => ?_))
      case sb34 => ((try dsimp only); (first | exact HX.out _ _ hgN h28 | exact h28 | exact ⟨Lib.hid ⟨hsN.gr (h28).1.out.1 hw2, hsN.vt hb2 (h28).1.out.2.1, hsN.vt hd3 (h28).1.out.2.2.1, (h28).1.out.2.2.2.sole hsN hg0⟩, hsN.cell ha2 (h28).2⟩))
      clear hK K h28
      try simp only [Act.put, List.setIfInBounds_toArray, List.set_cons_zero, List.set_cons_succ]
      refine wpAnyH_ready (rs := [34]) (by kernel_rfl) (by simp) ?_
      refine AllReadyH.cons (o := { dst := some 69, op := Go.Op.call { callee := Go.Callee.value (Go.Operand.func 14), args := #[Go.Operand.tmp 66, Go.Operand.tmp 68], argTypes := #[34, 3] }, type := 4, pos := "law.go:90", after := #[{ on := 31, ground := Go.Ground.data }, { on := 33, ground := Go.Ground.data }, { on := 31, ground := Go.Ground.chain }, { on := 29, ground := Go.Ground.guard }], guard := some (29, true) }) rfl (fun K hK => ?_) AllReadyH.nil
      go_simp
      (go_at_call 14; refine (A2.out d2 _ hv2).mono ?_; rintro e w9 ⟨rfl, hvN, hsN⟩)
      first | refine hK.out _ _ ?sb35 (fun h35 => ?_) | (go_wp2_with fail; refine hK.out _ _ ?sb35 (fun h35 => ?_))
      case sb35 => ((try dsimp only); (first | exact HX.out _ _ hgN h34 | exact h34 | exact ⟨Lib.hid ⟨hsN.gr (h34).1.out.1 hw2, hsN.vt hb2 (h34).1.out.2.1, hsN.vt hd3 (h34).1.out.2.2.1, (h34).1.out.2.2.2.sole hsN hg0⟩, hsN.cell ha2 (h34).2⟩))
      clear hK K h34
      try simp only [Act.put, List.setIfInBounds_toArray, List.set_cons_zero, List.set_cons_succ]
      refine wpAnyH_take (i := 35) (oi := { dst := some 70, op := Go.Op.unOp Go.UnOp.not 4 (Go.Operand.tmp 69), type := 4, pos := "law.go:90", after := #[{ on := 34, ground := Go.Ground.data }, { on := 29, ground := Go.Ground.guard }], guard := some (29, true) }) (v := ?vb36) rfl (by kernel_rfl) (by kernel_rfl) (by kernel_rfl) (fun _ _ _ h => h) (Or.inl ⟨by rfl, ?rb36⟩) (by assumption) ?_
      case rb36 => (intro w hSw; (try dsimp only at hSw); (go_simp <;> with_reducible rfl))
      try simp only [Act.put, List.setIfInBounds_toArray, List.set_cons_zero, List.set_cons_succ]
      refine wpAnyH_take (i := 36) (oi := { dst := some 71, op := Go.Op.pick (Go.Operand.tmp 64) (Go.Operand.tmp 70) (Go.Operand.const (Go.Value.bool false)), type := 4, pos := "law.go:90", after := #[{ on := 29, ground := Go.Ground.data }, { on := 35, ground := Go.Ground.data }, { on := 19, ground := Go.Ground.guard }], guard := some (19, true) }) (v := ?vb37) rfl (by kernel_rfl) (by kernel_rfl) (by kernel_rfl) (fun _ _ _ h => h) (Or.inl ⟨by rfl, ?rb37⟩) (by assumption) ?_
      case rb37 => (intro w hSw; (try dsimp only at hSw); (go_simp <;> with_reducible rfl))
      try simp only [Act.put, List.setIfInBounds_toArray, List.set_cons_zero, List.set_cons_succ]
      refine wpAnyH_take (i := 37) (oi := { dst := some 72, op := Go.Op.binOp Go.BinOp.eql 4 (Go.Operand.tmp 58) (Go.Operand.tmp 71) 4, type := 4, pos := "law.go:90", after := #[{ on := 23, ground := Go.Ground.data }, { on := 36, ground := Go.Ground.data }, { on := 19, ground := Go.Ground.guard }], guard := some (19, true) }) (v := ?vb38) rfl (by kernel_rfl) (by kernel_rfl) (by kernel_rfl) (fun _ _ _ h => h) (Or.inl ⟨by rfl, ?rb38⟩) (by assumption) ?_
      case rb38 => (intro w hSw; (try dsimp only at hSw); (go_simp <;> with_reducible rfl))
      try simp only [Act.put, List.setIfInBounds_toArray, List.set_cons_zero, List.set_cons_succ]
      refine wpAnyH_take (i := 38) (oi := { dst := some 73, op := Go.Op.pick (Go.Operand.tmp 54) (Go.Operand.tmp 72) (Go.Operand.const (Go.Value.bool false)), type := 4, pos := "law.go:90", after := #[{ on := 19, ground := Go.Ground.data }, { on := 37, ground := Go.Ground.data }], guard := none }) (v := ?vb39) rfl (by kernel_rfl) (by kernel_rfl) (by kernel_rfl) (fun _ _ _ h => h) (Or.inl ⟨by rfl, ?rb39⟩) (by assumption) ?_
      case rb39 => (intro w hSw; (try dsimp only at hSw); (go_simp <;> with_reducible rfl))
      try simp only [Act.put, List.setIfInBounds_toArray, List.set_cons_zero, List.set_cons_succ]
      refine wpAnyH_take (i := 39) (oi := { dst := some 6, op := Go.Op.assign (Go.Operand.tmp 73), type := 4, pos := "law.go:90", after := #[{ on := 38, ground := Go.Ground.data }, { on := 34, ground := Go.Ground.chain }, { on := 0, ground := Go.Ground.phase }, { on := 1, ground := Go.Ground.phase }, { on := 2, ground := Go.Ground.phase }, { on := 3, ground := Go.Ground.phase }, { on := 4, ground := Go.Ground.phase }, { on := 5, ground := Go.Ground.phase }, { on := 6, ground := Go.Ground.phase }, { on := 7, ground := Go.Ground.phase }, { on := 8, ground := Go.Ground.phase }, { on := 9, ground := Go.Ground.phase }, { on := 10, ground := Go.Ground.phase }, { on := 11, ground := Go.Ground.phase }, { on := 12, ground := Go.Ground.phase }, { on := 13, ground := Go.Ground.phase }, { on := 14, ground := Go.Ground.phase }, { on := 15, ground := Go.Ground.phase }, { on := 16, ground := Go.Ground.phase }, { on := 17, ground := Go.Ground.phase }, { on := 18, ground := Go.Ground.phase }, { on := 19, ground := Go.Ground.phase }, { on := 20, ground := Go.Ground.phase }, { on := 21, ground := Go.Ground.phase }, { on := 22, ground := Go.Ground.phase }, { on := 23, ground := Go.Ground.phase }, { on := 24, ground := Go.Ground.phase }, { on := 25, ground := Go.Ground.phase }, { on := 26, ground := Go.Ground.phase }, { on := 27, ground := Go.Ground.phase }, { on := 28, ground := Go.Ground.phase }, { on := 29, ground := Go.Ground.phase }, { on := 30, ground := Go.Ground.phase }, { on := 31, ground := Go.Ground.phase }, { on := 32, ground := Go.Ground.phase }, { on := 33, ground := Go.Ground.phase }, { on := 34, ground := Go.Ground.phase }, { on := 35, ground := Go.Ground.phase }, { on := 36, ground := Go.Ground.phase }, { on := 37, ground := Go.Ground.phase }, { on := 38, ground := Go.Ground.phase }], guard := none }) (v := ?vb40) rfl (by kernel_rfl) (by kernel_rfl) (by kernel_rfl) (fun _ _ _ h => h) (Or.inl ⟨by rfl, ?rb40⟩) (by assumption) ?_
      case rb40 => (intro w hSw; (try dsimp only at hSw); (go_simp <;> with_reducible rfl))
      try simp only [Act.put, List.setIfInBounds_toArray, List.set_cons_zero, List.set_cons_succ]
      refine wpAnyH_done (by kernel_rfl) ?_ _
      have HE := Lib.hid (h35).1.out.1
      clear h35
      go_wp2
      go_ret
      exact ⟨rfl, HE.out⟩
    · skip
      go_wp2
      have HS0 : (fun w9 => Hid (Gr w w9 ∧ VtIs w9 b r p W z1 n1 z2 n2 f s ∧ VtIs w9 d r p W z1 n1 z2 n2 f u ∧ TB w9) ∧ w9.cell? ⟨ab, 1, none⟩ = some (.int .i64 l1)) w8 := ⟨Lib.hid ⟨HG8.out, HV8.out, HD8.out, HT8.out⟩, l1c⟩
      have HX : Hid (∀ w0 w9 : World, Gr w0 w9 → (fun w9 => Hid (Gr w w9 ∧ VtIs w9 b r p W z1 n1 z2 n2 f s ∧ VtIs w9 d r p W z1 n1 z2 n2 f u ∧ TB w9) ∧ w9.cell? ⟨ab, 1, none⟩ = some (.int .i64 l1)) w0 → (fun w9 => Hid (Gr w w9 ∧ VtIs w9 b r p W z1 n1 z2 n2 f s ∧ VtIs w9 d r p W z1 n1 z2 n2 f u ∧ TB w9) ∧ w9.cell? ⟨ab, 1, none⟩ = some (.int .i64 l1)) w9) := Lib.hid fun w0 w9 hg ⟨h, q0⟩ => ⟨Lib.hid ⟨h.out.1.trans hg, h.out.2.1.gr hg, h.out.2.2.1.gr hg, h.out.2.2.2.gr hg⟩, hg.cell q0⟩
      refine wp_region_held_drew (S := (fun w9 => Hid (Gr w w9 ∧ VtIs w9 b r p W z1 n1 z2 n2 f s ∧ VtIs w9 d r p W z1 n1 z2 n2 f u ∧ TB w9) ∧ w9.cell? ⟨ab, 1, none⟩ = some (.int .i64 l1))) (by kernel_rfl) ?invc (fun h0 => ?_)
      case invc => ((try dsimp only); (first | exact HS0 | exact HX.out _ _ ((Gr.refl _).drew) HS0))
      refine wpAnyH_take (i := 0) (oi := { dst := some 35, op := Go.Op.move (Go.Operand.tmp 7), type := 34, pos := "law.go:90", after := #[], guard := none }) (v := ?vc1) rfl (by kernel_rfl) (by kernel_rfl) (by kernel_rfl) (fun _ _ _ h => h) (Or.inl ⟨by rfl, ?rc1⟩) (by assumption) ?_
      case rc1 => (intro w hSw; (try dsimp only at hSw); (go_simp <;> with_reducible rfl))
      try simp only [Act.put, List.setIfInBounds_toArray, List.set_cons_zero, List.set_cons_succ]
      refine wpAnyH_take (i := 2) (oi := { dst := some 37, op := Go.Op.move (Go.Operand.tmp 9), type := 23, pos := "law.go:90", after := #[], guard := none }) (v := ?vc2) rfl (by kernel_rfl) (by kernel_rfl) (by kernel_rfl) (fun _ _ _ h => h) (Or.inl ⟨by rfl, ?rc2⟩) (by assumption) ?_
      case rc2 => (intro w hSw; (try dsimp only at hSw); (go_simp <;> with_reducible rfl))
      try simp only [Act.put, List.setIfInBounds_toArray, List.set_cons_zero, List.set_cons_succ]
      refine wpAnyH_ready (rs := [1]) (by kernel_rfl) (by simp) ?_
      refine AllReadyH.cons (o := { dst := some 36, op := Go.Op.call { callee := Go.Callee.value (Go.Operand.func 15), args := #[Go.Operand.tmp 35], argTypes := #[34] }, type := 23, pos := "law.go:90", after := #[{ on := 0, ground := Go.Ground.data }], guard := none }) rfl (fun K hK => ?_) AllReadyH.nil
      go_simp
      (go_at_call 15; refine (vSet_any _ (h0).1.out.2.1).mono ?_; rintro e w9 ⟨rfl, rfl⟩)
      first | refine hK.out _ _ ?sc3 (fun h3 => ?_) | (go_wp2_with fail; refine hK.out _ _ ?sc3 (fun h3 => ?_))
      case sc3 => ((try dsimp only); (first | exact HX.out _ _ hgN h0 | exact h0 | exact ⟨Lib.hid ⟨hsN.gr (h0).1.out.1 hw2, hsN.vt hb2 (h0).1.out.2.1, hsN.vt hd3 (h0).1.out.2.2.1, (h0).1.out.2.2.2.sole hsN hg0⟩, hsN.cell ha2 (h0).2⟩))
      clear hK K h0
      try simp only [Act.put, List.setIfInBounds_toArray, List.set_cons_zero, List.set_cons_succ]
      refine wpAnyH_take (i := 3) (oi := { dst := some 38, op := Go.Op.binOp Go.BinOp.eql 23 (Go.Operand.tmp 36) (Go.Operand.tmp 37) 23, type := 4, pos := "law.go:90", after := #[{ on := 1, ground := Go.Ground.data }, { on := 2, ground := Go.Ground.data }], guard := none }) (v := (.bool true)) rfl (by kernel_rfl) (by kernel_rfl) (by kernel_rfl) (fun _ _ _ h => h) (Or.inl ⟨by rfl, ?rc4⟩) (by assumption) ?_
      case rc4 => (intro w hSw; (try dsimp only at hSw); go_simp; all_goals simp)
      try simp only [Act.put, List.setIfInBounds_toArray, List.set_cons_zero, List.set_cons_succ]
      refine wpAnyH_take (i := 4) (oi := { dst := some 39, op := Go.Op.move (Go.Operand.tmp 38), type := 4, pos := "law.go:90", after := #[{ on := 3, ground := Go.Ground.data }, { on := 1, ground := Go.Ground.chain }], guard := none }) (v := ?vc5) rfl (by kernel_rfl) (by kernel_rfl) (by kernel_rfl) (fun _ _ _ h => h) (Or.inl ⟨by rfl, ?rc5⟩) (by assumption) ?_
      case rc5 => (intro w hSw; (try dsimp only at hSw); (go_simp <;> with_reducible rfl))
      try simp only [Act.put, List.setIfInBounds_toArray, List.set_cons_zero, List.set_cons_succ]
      refine wpAnyH_take (i := 5) (oi := { dst := some 40, op := Go.Op.move (Go.Operand.tmp 10), type := 34, pos := "law.go:90", after := #[{ on := 4, ground := Go.Ground.guard }], guard := some (4, true) }) (v := ?vc6) rfl (by kernel_rfl) (by kernel_rfl) (by kernel_rfl) (fun _ _ _ h => h) (Or.inl ⟨by rfl, ?rc6⟩) (by assumption) ?_
      case rc6 => (intro w hSw; (try dsimp only at hSw); (go_simp <;> with_reducible rfl))
      try simp only [Act.put, List.setIfInBounds_toArray, List.set_cons_zero, List.set_cons_succ]
      refine wpAnyH_take (i := 7) (oi := { dst := some 42, op := Go.Op.move (Go.Operand.tmp 9), type := 23, pos := "law.go:90", after := #[{ on := 4, ground := Go.Ground.guard }], guard := some (4, true) }) (v := ?vc7) rfl (by kernel_rfl) (by kernel_rfl) (by kernel_rfl) (fun _ _ _ h => h) (Or.inl ⟨by rfl, ?rc7⟩) (by assumption) ?_
      case rc7 => (intro w hSw; (try dsimp only at hSw); (go_simp <;> with_reducible rfl))
      try simp only [Act.put, List.setIfInBounds_toArray, List.set_cons_zero, List.set_cons_succ]
      refine wpAnyH_take (i := 9) (oi := { dst := some 44, op := Go.Op.move (Go.Operand.tmp 9), type := 23, pos := "law.go:90", after := #[{ on := 4, ground := Go.Ground.guard }], guard := some (4, true) }) (v := ?vc8) rfl (by kernel_rfl) (by kernel_rfl) (by kernel_rfl) (fun _ _ _ h => h) (Or.inl ⟨by rfl, ?rc8⟩) (by assumption) ?_
      case rc8 => (intro w hSw; (try dsimp only at hSw); (go_simp <;> with_reducible rfl))
      try simp only [Act.put, List.setIfInBounds_toArray, List.set_cons_zero, List.set_cons_succ]
      refine wpAnyH_ready (rs := [6]) (by kernel_rfl) (by simp) ?_
      refine AllReadyH.cons (o := { dst := some 41, op := Go.Op.call { callee := Go.Callee.value (Go.Operand.func 15), args := #[Go.Operand.tmp 40], argTypes := #[34] }, type := 23, pos := "law.go:90", after := #[{ on := 5, ground := Go.Ground.data }, { on := 4, ground := Go.Ground.chain }, { on := 4, ground := Go.Ground.guard }], guard := some (4, true) }) rfl (fun K hK => ?_) AllReadyH.nil
      go_simp
      (go_at_call 15; refine (vSet_any _ (h3).1.out.2.2.1).mono ?_; rintro e w9 ⟨rfl, rfl⟩)
      first | refine hK.out _ _ ?sc9 (fun h9 => ?_) | (go_wp2_with fail; refine hK.out _ _ ?sc9 (fun h9 => ?_))
      case sc9 => ((try dsimp only); (first | exact HX.out _ _ hgN h3 | exact h3 | exact ⟨Lib.hid ⟨hsN.gr (h3).1.out.1 hw2, hsN.vt hb2 (h3).1.out.2.1, hsN.vt hd3 (h3).1.out.2.2.1, (h3).1.out.2.2.2.sole hsN hg0⟩, hsN.cell ha2 (h3).2⟩))
      clear hK K h3
      try simp only [Act.put, List.setIfInBounds_toArray, List.set_cons_zero, List.set_cons_succ]
      refine wpAnyH_take (i := 8) (oi := { dst := some 43, op := Go.Op.binOp Go.BinOp.and 23 (Go.Operand.tmp 41) (Go.Operand.tmp 42) 23, type := 23, pos := "law.go:90", after := #[{ on := 6, ground := Go.Ground.data }, { on := 7, ground := Go.Ground.data }, { on := 4, ground := Go.Ground.guard }], guard := some (4, true) }) (v := (.int .u32 (s : Nat))) rfl (by kernel_rfl) (by kernel_rfl) (by kernel_rfl) (fun _ _ _ h => h) (Or.inl ⟨by rfl, ?rc10⟩) (by assumption) ?_
      case rc10 => (intro w hSw; (try dsimp only at hSw); go_simp; all_goals simp [HAN.out])
      try simp only [Act.put, List.setIfInBounds_toArray, List.set_cons_zero, List.set_cons_succ]
      refine wpAnyH_take (i := 10) (oi := { dst := some 45, op := Go.Op.binOp Go.BinOp.eql 23 (Go.Operand.tmp 43) (Go.Operand.tmp 44) 23, type := 4, pos := "law.go:90", after := #[{ on := 8, ground := Go.Ground.data }, { on := 9, ground := Go.Ground.data }, { on := 4, ground := Go.Ground.guard }], guard := some (4, true) }) (v := (.bool true)) rfl (by kernel_rfl) (by kernel_rfl) (by kernel_rfl) (fun _ _ _ h => h) (Or.inl ⟨by rfl, ?rc11⟩) (by assumption) ?_
      case rc11 => (intro w hSw; (try dsimp only at hSw); go_simp; all_goals simp)
      try simp only [Act.put, List.setIfInBounds_toArray, List.set_cons_zero, List.set_cons_succ]
      refine wpAnyH_take (i := 11) (oi := { dst := some 46, op := Go.Op.pick (Go.Operand.tmp 39) (Go.Operand.tmp 45) (Go.Operand.const (Go.Value.bool false)), type := 4, pos := "law.go:90", after := #[{ on := 4, ground := Go.Ground.data }, { on := 10, ground := Go.Ground.data }], guard := none }) (v := ?vc12) rfl (by kernel_rfl) (by kernel_rfl) (by kernel_rfl) (fun _ _ _ h => h) (Or.inl ⟨by rfl, ?rc12⟩) (by assumption) ?_
      case rc12 => (intro w hSw; (try dsimp only at hSw); (go_simp <;> with_reducible rfl))
      try simp only [Act.put, List.setIfInBounds_toArray, List.set_cons_zero, List.set_cons_succ]
      refine wpAnyH_take (i := 12) (oi := { dst := some 47, op := Go.Op.move (Go.Operand.tmp 46), type := 4, pos := "law.go:90", after := #[{ on := 11, ground := Go.Ground.data }, { on := 6, ground := Go.Ground.chain }], guard := none }) (v := ?vc13) rfl (by kernel_rfl) (by kernel_rfl) (by kernel_rfl) (fun _ _ _ h => h) (Or.inl ⟨by rfl, ?rc13⟩) (by assumption) ?_
      case rc13 => (intro w hSw; (try dsimp only at hSw); (go_simp <;> with_reducible rfl))
      try simp only [Act.put, List.setIfInBounds_toArray, List.set_cons_zero, List.set_cons_succ]
      refine wpAnyH_take (i := 13) (oi := { dst := some 48, op := Go.Op.move (Go.Operand.tmp 10), type := 34, pos := "law.go:90", after := #[{ on := 12, ground := Go.Ground.guard }], guard := some (12, true) }) (v := ?vc14) rfl (by kernel_rfl) (by kernel_rfl) (by kernel_rfl) (fun _ _ _ h => h) (Or.inl ⟨by rfl, ?rc14⟩) (by assumption) ?_
      case rc14 => (intro w hSw; (try dsimp only at hSw); (go_simp <;> with_reducible rfl))
      try simp only [Act.put, List.setIfInBounds_toArray, List.set_cons_zero, List.set_cons_succ]
      refine wpAnyH_take (i := 15) (oi := { dst := some 50, op := Go.Op.move (Go.Operand.tmp 7), type := 34, pos := "law.go:90", after := #[{ on := 12, ground := Go.Ground.guard }], guard := some (12, true) }) (v := ?vc15) rfl (by kernel_rfl) (by kernel_rfl) (by kernel_rfl) (fun _ _ _ h => h) (Or.inl ⟨by rfl, ?rc15⟩) (by assumption) ?_
      case rc15 => (intro w hSw; (try dsimp only at hSw); (go_simp <;> with_reducible rfl))
      try simp only [Act.put, List.setIfInBounds_toArray, List.set_cons_zero, List.set_cons_succ]
      refine wpAnyH_ready (rs := [14]) (by kernel_rfl) (by simp) ?_
      refine AllReadyH.cons (o := { dst := some 49, op := Go.Op.call { callee := Go.Callee.value (Go.Operand.func 18), args := #[Go.Operand.tmp 48], argTypes := #[34] }, type := 3, pos := "law.go:90", after := #[{ on := 13, ground := Go.Ground.data }, { on := 12, ground := Go.Ground.chain }, { on := 12, ground := Go.Ground.guard }], guard := some (12, true) }) rfl (fun K hK => ?_) AllReadyH.nil
      go_simp
      (go_at_call 18; refine (LU.out _ (h9).1.out.2.2.1 (h9).1.out.2.2.2).mono ?_; rintro e w9 ⟨rfl, hgN⟩)
      first | refine hK.out _ _ ?sc16 (fun h16 => ?_) | (go_wp2_with fail; refine hK.out _ _ ?sc16 (fun h16 => ?_))
      case sc16 => ((try dsimp only); (first | exact HX.out _ _ hgN h9 | exact h9 | exact ⟨Lib.hid ⟨hsN.gr (h9).1.out.1 hw2, hsN.vt hb2 (h9).1.out.2.1, hsN.vt hd3 (h9).1.out.2.2.1, (h9).1.out.2.2.2.sole hsN hg0⟩, hsN.cell ha2 (h9).2⟩))
      clear hK K h9
      try simp only [Act.put, List.setIfInBounds_toArray, List.set_cons_zero, List.set_cons_succ]
      refine wpAnyH_ready (rs := [16]) (by kernel_rfl) (by simp) ?_
      refine AllReadyH.cons (o := { dst := some 51, op := Go.Op.call { callee := Go.Callee.value (Go.Operand.func 18), args := #[Go.Operand.tmp 50], argTypes := #[34] }, type := 3, pos := "law.go:90", after := #[{ on := 15, ground := Go.Ground.data }, { on := 14, ground := Go.Ground.chain }, { on := 12, ground := Go.Ground.guard }], guard := some (12, true) }) rfl (fun K hK => ?_) AllReadyH.nil
      go_simp
      (go_at_call 18; refine (LS.out _ (h16).1.out.2.1 (h16).1.out.2.2.2).mono ?_; rintro e w9 ⟨rfl, hgN⟩)
      first | refine hK.out _ _ ?sc17 (fun h17 => ?_) | (go_wp2_with fail; refine hK.out _ _ ?sc17 (fun h17 => ?_))
      case sc17 => ((try dsimp only); (first | exact HX.out _ _ hgN h16 | exact h16 | exact ⟨Lib.hid ⟨hsN.gr (h16).1.out.1 hw2, hsN.vt hb2 (h16).1.out.2.1, hsN.vt hd3 (h16).1.out.2.2.1, (h16).1.out.2.2.2.sole hsN hg0⟩, hsN.cell ha2 (h16).2⟩))
      clear hK K h16
      try simp only [Act.put, List.setIfInBounds_toArray, List.set_cons_zero, List.set_cons_succ]
      refine wpAnyH_take (i := 17) (oi := { dst := some 52, op := Go.Op.binOp Go.BinOp.leq 3 (Go.Operand.tmp 49) (Go.Operand.tmp 51) 3, type := 4, pos := "law.go:90", after := #[{ on := 14, ground := Go.Ground.data }, { on := 16, ground := Go.Ground.data }, { on := 12, ground := Go.Ground.guard }], guard := some (12, true) }) (v := (.bool true)) rfl (by kernel_rfl) (by kernel_rfl) (by kernel_rfl) (fun _ _ _ h => h) (Or.inl ⟨by rfl, ?rc18⟩) (by assumption) ?_
      case rc18 => (intro w hSw; (try dsimp only at hSw); go_simp; all_goals (first | omega | (simp; omega)))
      try simp only [Act.put, List.setIfInBounds_toArray, List.set_cons_zero, List.set_cons_succ]
      refine wpAnyH_take (i := 18) (oi := { dst := some 53, op := Go.Op.pick (Go.Operand.tmp 47) (Go.Operand.tmp 52) (Go.Operand.const (Go.Value.bool false)), type := 4, pos := "law.go:90", after := #[{ on := 12, ground := Go.Ground.data }, { on := 17, ground := Go.Ground.data }], guard := none }) (v := ?vc19) rfl (by kernel_rfl) (by kernel_rfl) (by kernel_rfl) (fun _ _ _ h => h) (Or.inl ⟨by rfl, ?rc19⟩) (by assumption) ?_
      case rc19 => (intro w hSw; (try dsimp only at hSw); (go_simp <;> with_reducible rfl))
      try simp only [Act.put, List.setIfInBounds_toArray, List.set_cons_zero, List.set_cons_succ]
      refine wpAnyH_take (i := 19) (oi := { dst := some 54, op := Go.Op.move (Go.Operand.tmp 53), type := 4, pos := "law.go:90", after := #[{ on := 18, ground := Go.Ground.data }, { on := 16, ground := Go.Ground.chain }], guard := none }) (v := ?vc20) rfl (by kernel_rfl) (by kernel_rfl) (by kernel_rfl) (fun _ _ _ h => h) (Or.inl ⟨by rfl, ?rc20⟩) (by assumption) ?_
      case rc20 => (intro w hSw; (try dsimp only at hSw); (go_simp <;> with_reducible rfl))
      try simp only [Act.put, List.setIfInBounds_toArray, List.set_cons_zero, List.set_cons_succ]
      refine wpAnyH_take (i := 20) (oi := { dst := some 55, op := Go.Op.move (Go.Operand.tmp 10), type := 34, pos := "law.go:90", after := #[{ on := 19, ground := Go.Ground.guard }], guard := some (19, true) }) (v := ?vc21) rfl (by kernel_rfl) (by kernel_rfl) (by kernel_rfl) (fun _ _ _ h => h) (Or.inl ⟨by rfl, ?rc21⟩) (by assumption) ?_
      case rc21 => (intro w hSw; (try dsimp only at hSw); (go_simp <;> with_reducible rfl))
      try simp only [Act.put, List.setIfInBounds_toArray, List.set_cons_zero, List.set_cons_succ]
      refine wpAnyH_take (i := 22) (oi := { dst := some 57, op := Go.Op.move (Go.Operand.tmp 9), type := 23, pos := "law.go:90", after := #[{ on := 19, ground := Go.Ground.guard }], guard := some (19, true) }) (v := ?vc22) rfl (by kernel_rfl) (by kernel_rfl) (by kernel_rfl) (fun _ _ _ h => h) (Or.inl ⟨by rfl, ?rc22⟩) (by assumption) ?_
      case rc22 => (intro w hSw; (try dsimp only at hSw); (go_simp <;> with_reducible rfl))
      try simp only [Act.put, List.setIfInBounds_toArray, List.set_cons_zero, List.set_cons_succ]
      refine wpAnyH_take (i := 24) (oi := { dst := some 59, op := Go.Op.move (Go.Operand.tmp 10), type := 34, pos := "law.go:90", after := #[{ on := 19, ground := Go.Ground.guard }], guard := some (19, true) }) (v := ?vc23) rfl (by kernel_rfl) (by kernel_rfl) (by kernel_rfl) (fun _ _ _ h => h) (Or.inl ⟨by rfl, ?rc23⟩) (by assumption) ?_
      case rc23 => (intro w hSw; (try dsimp only at hSw); (go_simp <;> with_reducible rfl))
      try simp only [Act.put, List.setIfInBounds_toArray, List.set_cons_zero, List.set_cons_succ]
      refine wpAnyH_take (i := 26) (oi := { dst := some 61, op := Go.Op.move (Go.Operand.tmp 7), type := 34, pos := "law.go:90", after := #[{ on := 19, ground := Go.Ground.guard }], guard := some (19, true) }) (v := ?vc24) rfl (by kernel_rfl) (by kernel_rfl) (by kernel_rfl) (fun _ _ _ h => h) (Or.inl ⟨by rfl, ?rc24⟩) (by assumption) ?_
      case rc24 => (intro w hSw; (try dsimp only at hSw); (go_simp <;> with_reducible rfl))
      try simp only [Act.put, List.setIfInBounds_toArray, List.set_cons_zero, List.set_cons_succ]
      refine wpAnyH_ready (rs := [21]) (by kernel_rfl) (by simp) ?_
      refine AllReadyH.cons (o := { dst := some 56, op := Go.Op.call { callee := Go.Callee.value (Go.Operand.func 15), args := #[Go.Operand.tmp 55], argTypes := #[34] }, type := 23, pos := "law.go:90", after := #[{ on := 20, ground := Go.Ground.data }, { on := 19, ground := Go.Ground.chain }, { on := 19, ground := Go.Ground.guard }], guard := some (19, true) }) rfl (fun K hK => ?_) AllReadyH.nil
      go_simp
      (go_at_call 15; refine (vSet_any _ (h17).1.out.2.2.1).mono ?_; rintro e w9 ⟨rfl, rfl⟩)
      first | refine hK.out _ _ ?sc25 (fun h25 => ?_) | (go_wp2_with fail; refine hK.out _ _ ?sc25 (fun h25 => ?_))
      case sc25 => ((try dsimp only); (first | exact HX.out _ _ hgN h17 | exact h17 | exact ⟨Lib.hid ⟨hsN.gr (h17).1.out.1 hw2, hsN.vt hb2 (h17).1.out.2.1, hsN.vt hd3 (h17).1.out.2.2.1, (h17).1.out.2.2.2.sole hsN hg0⟩, hsN.cell ha2 (h17).2⟩))
      clear hK K h17
      try simp only [Act.put, List.setIfInBounds_toArray, List.set_cons_zero, List.set_cons_succ]
      refine wpAnyH_take (i := 23) (oi := { dst := some 58, op := Go.Op.binOp Go.BinOp.eql 23 (Go.Operand.tmp 56) (Go.Operand.tmp 57) 23, type := 4, pos := "law.go:90", after := #[{ on := 21, ground := Go.Ground.data }, { on := 22, ground := Go.Ground.data }, { on := 19, ground := Go.Ground.guard }], guard := some (19, true) }) (v := (.bool false)) rfl (by kernel_rfl) (by kernel_rfl) (by kernel_rfl) (fun _ _ _ h => h) (Or.inl ⟨by rfl, ?rc26⟩) (by assumption) ?_
      case rc26 => (intro w hSw; (try dsimp only at hSw); go_simp; all_goals (first | (simp; done) | (simp; omega) | omega))
      try simp only [Act.put, List.setIfInBounds_toArray, List.set_cons_zero, List.set_cons_succ]
      refine wpAnyH_ready (rs := [25]) (by kernel_rfl) (by simp) ?_
      refine AllReadyH.cons (o := { dst := some 60, op := Go.Op.call { callee := Go.Callee.value (Go.Operand.func 18), args := #[Go.Operand.tmp 59], argTypes := #[34] }, type := 3, pos := "law.go:90", after := #[{ on := 24, ground := Go.Ground.data }, { on := 21, ground := Go.Ground.chain }, { on := 19, ground := Go.Ground.guard }], guard := some (19, true) }) rfl (fun K hK => ?_) AllReadyH.nil
      go_simp
      (go_at_call 18; refine (LU.out _ (h25).1.out.2.2.1 (h25).1.out.2.2.2).mono ?_; rintro e w9 ⟨rfl, hgN⟩)
      first | refine hK.out _ _ ?sc27 (fun h27 => ?_) | (go_wp2_with fail; refine hK.out _ _ ?sc27 (fun h27 => ?_))
      case sc27 => ((try dsimp only); (first | exact HX.out _ _ hgN h25 | exact h25 | exact ⟨Lib.hid ⟨hsN.gr (h25).1.out.1 hw2, hsN.vt hb2 (h25).1.out.2.1, hsN.vt hd3 (h25).1.out.2.2.1, (h25).1.out.2.2.2.sole hsN hg0⟩, hsN.cell ha2 (h25).2⟩))
      clear hK K h25
      try simp only [Act.put, List.setIfInBounds_toArray, List.set_cons_zero, List.set_cons_succ]
      refine wpAnyH_ready (rs := [27]) (by kernel_rfl) (by simp) ?_
      refine AllReadyH.cons (o := { dst := some 62, op := Go.Op.call { callee := Go.Callee.value (Go.Operand.func 18), args := #[Go.Operand.tmp 61], argTypes := #[34] }, type := 3, pos := "law.go:90", after := #[{ on := 26, ground := Go.Ground.data }, { on := 25, ground := Go.Ground.chain }, { on := 19, ground := Go.Ground.guard }], guard := some (19, true) }) rfl (fun K hK => ?_) AllReadyH.nil
      go_simp
      (go_at_call 18; refine (LS.out _ (h27).1.out.2.1 (h27).1.out.2.2.2).mono ?_; rintro e w9 ⟨rfl, hgN⟩)
      first | refine hK.out _ _ ?sc28 (fun h28 => ?_) | (go_wp2_with fail; refine hK.out _ _ ?sc28 (fun h28 => ?_))
      case sc28 => ((try dsimp only); (first | exact HX.out _ _ hgN h27 | exact h27 | exact ⟨Lib.hid ⟨hsN.gr (h27).1.out.1 hw2, hsN.vt hb2 (h27).1.out.2.1, hsN.vt hd3 (h27).1.out.2.2.1, (h27).1.out.2.2.2.sole hsN hg0⟩, hsN.cell ha2 (h27).2⟩))
      clear hK K h27
      try simp only [Act.put, List.setIfInBounds_toArray, List.set_cons_zero, List.set_cons_succ]
      refine wpAnyH_take (i := 28) (oi := { dst := some 63, op := Go.Op.binOp Go.BinOp.eql 3 (Go.Operand.tmp 60) (Go.Operand.tmp 62) 3, type := 4, pos := "law.go:90", after := #[{ on := 25, ground := Go.Ground.data }, { on := 27, ground := Go.Ground.data }, { on := 19, ground := Go.Ground.guard }], guard := some (19, true) }) (v := (.bool false)) rfl (by kernel_rfl) (by kernel_rfl) (by kernel_rfl) (fun _ _ _ h => h) (Or.inl ⟨by rfl, ?rc29⟩) (by assumption) ?_
      case rc29 => (intro w hSw; (try dsimp only at hSw); go_simp; all_goals (first | (simp; done) | (simp; omega) | omega))
      try simp only [Act.put, List.setIfInBounds_toArray, List.set_cons_zero, List.set_cons_succ]
      refine wpAnyH_take (i := 29) (oi := { dst := some 64, op := Go.Op.move (Go.Operand.tmp 63), type := 4, pos := "law.go:90", after := #[{ on := 28, ground := Go.Ground.data }, { on := 27, ground := Go.Ground.chain }, { on := 19, ground := Go.Ground.guard }], guard := some (19, true) }) (v := ?vc30) rfl (by kernel_rfl) (by kernel_rfl) (by kernel_rfl) (fun _ _ _ h => h) (Or.inl ⟨by rfl, ?rc30⟩) (by assumption) ?_
      case rc30 => (intro w hSw; (try dsimp only at hSw); (go_simp <;> with_reducible rfl))
      try simp only [Act.put, List.setIfInBounds_toArray, List.set_cons_zero, List.set_cons_succ]
      refine wpAnyH_take (i := 30) (oi := { dst := some 65, op := Go.Op.move (Go.Operand.tmp 7), type := 34, pos := "law.go:90", after := #[{ on := 29, ground := Go.Ground.guard }], guard := some (29, true) }) (v := undef) rfl (by kernel_rfl) (by kernel_rfl) (by kernel_rfl) (fun _ _ _ h => h) (Or.inr ⟨by rfl, rfl⟩) (by assumption) ?_
      try simp only [Act.put, List.setIfInBounds_toArray, List.set_cons_zero, List.set_cons_succ]
      refine wpAnyH_take (i := 31) (oi := { dst := some 66, op := Go.Op.call { callee := Go.Callee.value (Go.Operand.func 20), args := #[Go.Operand.tmp 65], argTypes := #[34] }, type := 34, pos := "law.go:90", after := #[{ on := 30, ground := Go.Ground.data }, { on := 29, ground := Go.Ground.chain }, { on := 29, ground := Go.Ground.guard }], guard := some (29, true) }) (v := undef) rfl (by kernel_rfl) (by kernel_rfl) (by kernel_rfl) (fun _ _ _ h => h) (Or.inr ⟨by rfl, rfl⟩) (by assumption) ?_
      try simp only [Act.put, List.setIfInBounds_toArray, List.set_cons_zero, List.set_cons_succ]
      refine wpAnyH_take (i := 32) (oi := { dst := some 67, op := Go.Op.indexAddr 43 (Go.Operand.tmp 5) (Go.Operand.const (Go.Value.int Go.IntKind.i64 1)), type := 0, pos := "law.go:90", after := #[{ on := 29, ground := Go.Ground.guard }], guard := some (29, true) }) (v := undef) rfl (by kernel_rfl) (by kernel_rfl) (by kernel_rfl) (fun _ _ _ h => h) (Or.inr ⟨by rfl, rfl⟩) (by assumption) ?_
      try simp only [Act.put, List.setIfInBounds_toArray, List.set_cons_zero, List.set_cons_succ]
      refine wpAnyH_take (i := 33) (oi := { dst := some 68, op := Go.Op.load 3 (Go.Operand.tmp 67), type := 3, pos := "law.go:90", after := #[{ on := 32, ground := Go.Ground.data }, { on := 29, ground := Go.Ground.guard }], guard := some (29, true) }) (v := undef) rfl (by kernel_rfl) (by kernel_rfl) (by kernel_rfl) (fun _ _ _ h => h) (Or.inr ⟨by rfl, rfl⟩) (by assumption) ?_
      try simp only [Act.put, List.setIfInBounds_toArray, List.set_cons_zero, List.set_cons_succ]
      refine wpAnyH_take (i := 34) (oi := { dst := some 69, op := Go.Op.call { callee := Go.Callee.value (Go.Operand.func 14), args := #[Go.Operand.tmp 66, Go.Operand.tmp 68], argTypes := #[34, 3] }, type := 4, pos := "law.go:90", after := #[{ on := 31, ground := Go.Ground.data }, { on := 33, ground := Go.Ground.data }, { on := 31, ground := Go.Ground.chain }, { on := 29, ground := Go.Ground.guard }], guard := some (29, true) }) (v := undef) rfl (by kernel_rfl) (by kernel_rfl) (by kernel_rfl) (fun _ _ _ h => h) (Or.inr ⟨by rfl, rfl⟩) (by assumption) ?_
      try simp only [Act.put, List.setIfInBounds_toArray, List.set_cons_zero, List.set_cons_succ]
      refine wpAnyH_take (i := 35) (oi := { dst := some 70, op := Go.Op.unOp Go.UnOp.not 4 (Go.Operand.tmp 69), type := 4, pos := "law.go:90", after := #[{ on := 34, ground := Go.Ground.data }, { on := 29, ground := Go.Ground.guard }], guard := some (29, true) }) (v := undef) rfl (by kernel_rfl) (by kernel_rfl) (by kernel_rfl) (fun _ _ _ h => h) (Or.inr ⟨by rfl, rfl⟩) (by assumption) ?_
      try simp only [Act.put, List.setIfInBounds_toArray, List.set_cons_zero, List.set_cons_succ]
      refine wpAnyH_take (i := 36) (oi := { dst := some 71, op := Go.Op.pick (Go.Operand.tmp 64) (Go.Operand.tmp 70) (Go.Operand.const (Go.Value.bool false)), type := 4, pos := "law.go:90", after := #[{ on := 29, ground := Go.Ground.data }, { on := 35, ground := Go.Ground.data }, { on := 19, ground := Go.Ground.guard }], guard := some (19, true) }) (v := ?vc31) rfl (by kernel_rfl) (by kernel_rfl) (by kernel_rfl) (fun _ _ _ h => h) (Or.inl ⟨by rfl, ?rc31⟩) (by assumption) ?_
      case rc31 => (intro w hSw; (try dsimp only at hSw); (go_simp <;> with_reducible rfl))
      try simp only [Act.put, List.setIfInBounds_toArray, List.set_cons_zero, List.set_cons_succ]
      refine wpAnyH_take (i := 37) (oi := { dst := some 72, op := Go.Op.binOp Go.BinOp.eql 4 (Go.Operand.tmp 58) (Go.Operand.tmp 71) 4, type := 4, pos := "law.go:90", after := #[{ on := 23, ground := Go.Ground.data }, { on := 36, ground := Go.Ground.data }, { on := 19, ground := Go.Ground.guard }], guard := some (19, true) }) (v := ?vc32) rfl (by kernel_rfl) (by kernel_rfl) (by kernel_rfl) (fun _ _ _ h => h) (Or.inl ⟨by rfl, ?rc32⟩) (by assumption) ?_
      case rc32 => (intro w hSw; (try dsimp only at hSw); (go_simp <;> with_reducible rfl))
      try simp only [Act.put, List.setIfInBounds_toArray, List.set_cons_zero, List.set_cons_succ]
      refine wpAnyH_take (i := 38) (oi := { dst := some 73, op := Go.Op.pick (Go.Operand.tmp 54) (Go.Operand.tmp 72) (Go.Operand.const (Go.Value.bool false)), type := 4, pos := "law.go:90", after := #[{ on := 19, ground := Go.Ground.data }, { on := 37, ground := Go.Ground.data }], guard := none }) (v := ?vc33) rfl (by kernel_rfl) (by kernel_rfl) (by kernel_rfl) (fun _ _ _ h => h) (Or.inl ⟨by rfl, ?rc33⟩) (by assumption) ?_
      case rc33 => (intro w hSw; (try dsimp only at hSw); (go_simp <;> with_reducible rfl))
      try simp only [Act.put, List.setIfInBounds_toArray, List.set_cons_zero, List.set_cons_succ]
      refine wpAnyH_take (i := 39) (oi := { dst := some 6, op := Go.Op.assign (Go.Operand.tmp 73), type := 4, pos := "law.go:90", after := #[{ on := 38, ground := Go.Ground.data }, { on := 34, ground := Go.Ground.chain }, { on := 0, ground := Go.Ground.phase }, { on := 1, ground := Go.Ground.phase }, { on := 2, ground := Go.Ground.phase }, { on := 3, ground := Go.Ground.phase }, { on := 4, ground := Go.Ground.phase }, { on := 5, ground := Go.Ground.phase }, { on := 6, ground := Go.Ground.phase }, { on := 7, ground := Go.Ground.phase }, { on := 8, ground := Go.Ground.phase }, { on := 9, ground := Go.Ground.phase }, { on := 10, ground := Go.Ground.phase }, { on := 11, ground := Go.Ground.phase }, { on := 12, ground := Go.Ground.phase }, { on := 13, ground := Go.Ground.phase }, { on := 14, ground := Go.Ground.phase }, { on := 15, ground := Go.Ground.phase }, { on := 16, ground := Go.Ground.phase }, { on := 17, ground := Go.Ground.phase }, { on := 18, ground := Go.Ground.phase }, { on := 19, ground := Go.Ground.phase }, { on := 20, ground := Go.Ground.phase }, { on := 21, ground := Go.Ground.phase }, { on := 22, ground := Go.Ground.phase }, { on := 23, ground := Go.Ground.phase }, { on := 24, ground := Go.Ground.phase }, { on := 25, ground := Go.Ground.phase }, { on := 26, ground := Go.Ground.phase }, { on := 27, ground := Go.Ground.phase }, { on := 28, ground := Go.Ground.phase }, { on := 29, ground := Go.Ground.phase }, { on := 30, ground := Go.Ground.phase }, { on := 31, ground := Go.Ground.phase }, { on := 32, ground := Go.Ground.phase }, { on := 33, ground := Go.Ground.phase }, { on := 34, ground := Go.Ground.phase }, { on := 35, ground := Go.Ground.phase }, { on := 36, ground := Go.Ground.phase }, { on := 37, ground := Go.Ground.phase }, { on := 38, ground := Go.Ground.phase }], guard := none }) (v := ?vc34) rfl (by kernel_rfl) (by kernel_rfl) (by kernel_rfl) (fun _ _ _ h => h) (Or.inl ⟨by rfl, ?rc34⟩) (by assumption) ?_
      case rc34 => (intro w hSw; (try dsimp only at hSw); (go_simp <;> with_reducible rfl))
      try simp only [Act.put, List.setIfInBounds_toArray, List.set_cons_zero, List.set_cons_succ]
      refine wpAnyH_done (by kernel_rfl) ?_ _
      have HE := Lib.hid (h28).1.out.1
      clear h28
      go_wp2
      go_ret
      exact ⟨rfl, HE.out⟩
end Go.Proofs.YtegapeplbincnaaDoor
